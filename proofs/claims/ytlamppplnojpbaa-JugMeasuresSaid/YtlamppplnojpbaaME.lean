import Derived.Test.YtlamppplnojpbaaMD
import Derived.Laws.AppendOwn
import Derived.ChangeKeysEq
import Derived.Maps.RangeWalk
import Derived.Maps.OwnIn
import Derived.Maps.AppendAt
import Derived.RangeFuncNested
import Derived.RangeFuncBound
import Derived.RangeFuncCalls
import Derived.RangeFuncLeaves
import Derived.Shelf.Abstract
import Derived.Shelf.RegionOpen
import Derived.WalkKit
import Derived.WalkMore
import Derived.OwnWalkIn
import Derived.TacticsInMore
import Derived.LoopNIn
import Derived.LoopIn
import Derived.WalkSpells
import Derived.WalkLawsBesides
import Derived.BigQuiet
import Derived.Deep.QuietTactic
import Derived.Lib.Hide
import Derived.Deep.RegionHeld3
import Derived.StillTailTactics
import Derived.Deep.LoopGhost
import Derived.Maps.OwnSet
import Derived.Lib.IndexAny
import Derived.Sort.QuietThIn
import Derived.Sort.QuietTacIn
import Derived.Sort.BigQuietIn
import Derived.Laws.OwnMore
import Derived.Test.YtlamppplnojpbaaMC
namespace Go.Proofs.Ytlamppplnojpbaa
open Go.RowKit Go.Shelf
attribute [local go_sem] Oper.semAt_some
theorem bfs_mono (P : List Int) (gl : List Int → Bool) (ss : List (Int × Int)) (d : Nat) : ∀ (k : Nat) (A : Sn) (qs : List (List Int)) (r : Sn × Option (List Int)), bfs P gl ss k A qs = some r → bfs P gl ss (k + d) A qs = some r
  | 0, _, _, _, h => by simp [bfs] at h
  | k + 1, A, [], r, h => by rw [bfs] at h; rw [show k + 1 + d = (k + d) + 1 by omega, bfs]; exact h
  | k + 1, A, q :: qs, r, h => by
    rw [bfs] at h
    rw [show k + 1 + d = (k + d) + 1 by omega, bfs]
    rcases hv : visit P gl q (((lookA A q).map Cm.k).getD 0 + 1) ss (A, qs) with ⟨⟨A', qs'⟩, o⟩
    rw [hv] at h
    cases o with
    | some g => exact h
    | none => exact bfs_mono P gl ss d k A' qs' r h
theorem srch_mono {P : List Int} {gl : List Int → Bool} {ss : List (Int × Int)} {k d : Nat} {F : List Int} {r : Sn × Option (List Int)} (h : srch P gl ss k F = some r) : srch P gl ss (k + d) F = some r := by
  unfold srch at h ⊢
  split
  · rename_i e; rw [if_pos e] at h; exact h
  · rename_i e; rw [if_neg e] at h; exact bfs_mono P gl ss d k _ _ r h
def evOk (o : Option (Sn × Option (List Int))) (f : Sn × Option (List Int) → Bool) : Bool := match o with | some r => f r | none => false
theorem evOk_some {o : Option (Sn × Option (List Int))} {f : Sn × Option (List Int) → Bool} (h : evOk o f = true) : ∃ r, o = some r ∧ f r = true := by
  cases o with
  | none => cases h
  | some r => exact ⟨r, rfl, h⟩
theorem ev1 : evOk (srch (padF [3, 5]) (glA 2 4) (stepsL (-1) 3) 60 [0, 0, 0, 0]) (fun r => r.2.isSome && decide ((wayF r).length = 6)) = true := by decide +kernel
theorem ev2 : evOk (srch (padF [8, 5, 3]) (glG (padF [4, 4, 0])) (ssF true 3) 60 (padF [8, 0, 0])) (fun r => r.2.isSome && decide ((wayF r).length = 7)) = true := by decide +kernel
theorem ev3 : evOk (srch (padF [4, 6]) glN (ssF false 2) 60 (padF [])) (fun r => decide (amtL r.1 2 13 = [0, 2, 4, 6])) = true := by decide +kernel
theorem ev4 : ringL true 3 5 4 20 0 0 [] = some ([(-1, 0), (0, 1), (-1, 0), (0, 1), (1, -1), (0, 1), (-1, 0), (0, 1)], true) := by decide +kernel
end Go.Proofs.Ytlamppplnojpbaa
namespace Go.Proofs.Ytlamppplnojpbaa
open Go.RowKit Go.Shelf
attribute [local go_sem] Oper.semAt_some
theorem IntsAt.drewN {w : World} {b o : Nat} {zs : List Int} (h : IntsAt w b o zs) (n : Nat) : IntsAt (w.drewN n) b o zs := ⟨h.lt, h.at_⟩
set_option maxHeartbeats 1000000 in
theorem ints_any (xs ys : List Int) (g h c d : Nat) (w : World) (hx : IntsAt w g 0 xs) (hy : IntsAt w h 0 ys) (hl : xs.length = ys.length) (h1 : xs.length ≤ 1000) :
    Calls Try.prog 35 #[.slice (some ⟨g, 0, none⟩) xs.length c, .slice (some ⟨h, 0, none⟩) ys.length d] w fun e w' => e = .returned (.bool (decide (xs = ys))) ∧ Below w.heap.size w w' := by
  have d1 : ((xs.length : Int) != (ys.length : Int)) = false := by simp; omega
  have HX := Lib.hid hx
  have HY := Lib.hid hy
  have HL := Lib.hid hl
  obtain ⟨E, hE⟩ : ∃ E, decide (xs = ys) = E := ⟨_, rfl⟩
  rw [hE]
  have HE := Lib.hid hE
  clear hx hy hl hE
  go_enter Try.func35, Try.ntmps35
  go_wp2_with fail
  go_loopw [5] (fun i wr => ∃ k : Nat, k ≤ xs.length ∧ i = .int .i64 (k : Int) ∧ Hid (∃ n, wr = w.drewN n) ∧ Hid (xs.take k = ys.take k)) (fun i _ => xs.length - (intOf i).toNat)
  case atStart => exact ⟨0, by omega, rfl, Lib.hid ⟨0, rfl⟩, Lib.hid rfl⟩
  case round =>
    obtain ⟨k, hk, rfl, HN, HK⟩ := hrel
    obtain ⟨n, hn⟩ := HN.out
    have HW := Lib.hid (show Below w.heap.size w wr by rw [hn]; exact below_drewN (Below.refl _ _) _)
    have HX1 := Lib.hid (show IntsAt wr g 0 xs by rw [hn]; exact HX.out.drewN n)
    have HY1 := Lib.hid (show IntsAt wr h 0 ys by rw [hn]; exact HY.out.drewN n)
    have HNN := Lib.hid hn
    clear hn
    by_cases hlt : k < xs.length
    · have hlt2 : k < ys.length := by have := HL.out; omega
      have hd : decide ((k : Int) < (xs.length : Int)) = true := decide_eq_true (by omega)
      have c1 := HX1.out.at_ k hlt
      have c2 := HY1.out.at_ k hlt2
      rw [Nat.zero_add] at c1 c2
      have hs1 : xs.take (k + 1) = xs.take k ++ [xs[k]] := List.take_succ_eq_append_getElem hlt
      have hs2 : ys.take (k + 1) = ys.take k ++ [ys[k]] := List.take_succ_eq_append_getElem hlt2
      have hne : xs[k] ≠ ys[k] → E = false := fun hne => by
        rw [← HE.out]; refine decide_eq_false fun e => hne ?_
        subst e; rfl
      have S1 := Lib.hid hs1
      have S2 := Lib.hid hs2
      have HNE := Lib.hid hne
      clear hs1 hs2 hne
      generalize xs[k] = a at *
      generalize ys[k] = b at *
      go_wp2_with fail
      go_quiet (fail)
      by_cases hab : a = b
      · have dd : (a != b) = false := by simp [hab]
        subst hab
        clear HNE
        go_wp2_with fail
        go_roundw
        case rel => exact ⟨k + 1, by omega, rfl, Lib.hid ⟨_, by rw [HNN.out, drewN_drewN]⟩, Lib.hid (by rw [S1.out, S2.out, HK.out])⟩
        case measure => simp [intOf]; omega
      · have dd : (a != b) = true := by simp [hab]
        have HF := Lib.hid (HNE.out hab)
        clear hab HNE
        go_wp2_with fail
        go_ret
        exact ⟨ret_bool HF.out.symm, below_drewN HW.out _⟩
    · have hd : decide ((k : Int) < (xs.length : Int)) = false := decide_eq_false (by omega)
      have hfin : E = true := by
        rw [← HE.out]; refine decide_eq_true ?_
        have := HK.out
        rw [List.take_of_length_le (by omega), List.take_of_length_le (by have := HL.out; omega)] at this
        exact this
      have HF := Lib.hid hfin
      clear hfin
      go_wp2_with fail
      go_ret
      exact ⟨ret_bool HF.out.symm, HW.out⟩
theorem own_ints {W : World} {n₀ k : Nat} {zs : List Int} {v : Value} (h : W.ownsRow n₀ 3 1 v k (zs.map encI)) (hz : zs ≠ []) : ∃ g cap, v = .slice (some ⟨g, 0, none⟩) zs.length cap ∧ g < W.heap.size ∧ IntsAt W g 0 zs := by
  have hl : k = zs.length := by have := h.1; rw [List.length_map] at this; omega
  subst hl
  rcases h.2 with ⟨_, hn⟩ | ⟨g, cap, cur, rfl, _, hgb, _⟩
  · exact absurd (List.eq_nil_of_length_eq_zero hn) hz
  · have hlt := (Array.getElem?_eq_some_iff.1 hgb).1
    refine ⟨g, cap, rfl, hlt, .inr hlt, fun i hi => ?_⟩
    have := h.cells (g := g) rfl i (encI zs[i]) (by simp [hi])
    rw [Nat.zero_add]
    by_cases h0 : i = 0
    · subst h0; simpa [Addr.add, encI] using this
    · simpa [Addr.add, encI, h0] using this
theorem sli_new (w : World) (zs : List Int) : SlI (w.alloc (.cells (zs.map encI).toArray 3)) (.slice (some ⟨w.heap.size, 0, none⟩) zs.length zs.length) zs := by
  have r := Row.new w 3 (zs.map encI)
  refine ⟨_, _, rfl, Nat.le_refl _, .inr ⟨_, 0, rfl, r.lt, .inr r.lt, fun i hi => ?_⟩⟩
  rw [Nat.zero_add, r.cell, List.getElem?_map, List.getElem?_eq_getElem hi]; rfl
set_option maxRecDepth 100000 in
set_option maxHeartbeats 400000 in
theorem Check_any (zs : List Int) (v : Value) (w : World) (hv : SlI w v zs) (hl : zs.length ≤ 1000000) : Calls Try.prog 18 #[v] w fun e w' => e = .returned (.int .i64 (errJ zs)) ∧ Below w.heap.size w w' := by
  have HC := Lib.hid (check_any zs v w hv hl)
  clear hv hl
  go_enter Try.func18, Try.ntmps18
  go_wp2_with fail
  refine HC.out.mono ?_
  rintro e w1 ⟨rfl, hb⟩
  have HB := Lib.hid hb
  clear hb HC
  go_wp2_with fail
  go_ret
  exact ⟨rfl, HB.out⟩
theorem ev5 : ringL false 3 5 4 20 0 0 [] = some ([(-1, 1), (1, 0), (0, -1), (1, 0), (-1, 1), (1, 0)], true) := by decide +kernel
theorem ev6 : ringL true 3 5 3 20 0 0 [] = some ([(-1, 0)], true) := by decide +kernel
theorem aw_Fewest (w : World) : Calls Try.prog 21 #[.slice (some ⟨w.heap.size, 0, none⟩) 2 2, .int .i64 4] (w.alloc (.cells #[.int .i64 3, .int .i64 5] 3)) fun e w' => e = .returned (.tuple #[.int .i64 6, .bool true, .int .i64 0]) ∧ Below w.heap.size w w' := by
  obtain ⟨r, hr, hf⟩ := evOk_some ev1
  simp only [Bool.and_eq_true, decide_eq_true_eq] at hf
  have ba := (Below.refl w.heap.size w).alloc (Nat.le_refl _) (.cells #[.int .i64 3, .int .i64 5] 3)
  refine (Fewest_ok [3, 5] _ 4 _ (sli_new w [3, 5]) (by simp) (by decide) (by decide) r (srch_mono (d := 28502) hr)).mono fun e w' ⟨h1, h2⟩ => ⟨?_, Below.andThen ba h2 (Nat.le_refl _)⟩
  rw [h1, hf.1, hf.2]; rfl
theorem aw_Way (w : World) : Calls Try.prog 27 #[.slice (some ⟨w.heap.size, 0, none⟩) 3 3, .slice (some ⟨w.heap.size + 1, 0, none⟩) 3 3, .slice (some ⟨w.heap.size + 1 + 1, 0, none⟩) 3 3, .bool true] (((w.alloc (.cells #[.int .i64 8, .int .i64 5, .int .i64 3] 3)).alloc (.cells #[.int .i64 8, .int .i64 0, .int .i64 0] 3)).alloc (.cells #[.int .i64 4, .int .i64 4, .int .i64 0] 3))
    fun e w' => (∃ a c, e = .returned (.tuple #[.slice a 7 c, .bool true, .int .i64 0])) ∧ Below w.heap.size w w' := by
  obtain ⟨r, hr, hf⟩ := evOk_some ev2
  simp only [Bool.and_eq_true, decide_eq_true_eq] at hf
  have s1 := sli_new w [8, 5, 3]
  have b1 := (Below.refl w.heap.size w).alloc (Nat.le_refl _) (.cells (([8, 5, 3] : List Int).map encI).toArray 3)
  have z1 := size_al w (.cells (([8, 5, 3] : List Int).map encI).toArray 3)
  obtain ⟨w1, hw1⟩ : ∃ w1, w.alloc (.cells (([8, 5, 3] : List Int).map encI).toArray 3) = w1 := ⟨_, rfl⟩
  rw [hw1] at s1 b1 z1
  have s2 := sli_new w1 [8, 0, 0]
  have b2 := (Below.refl w1.heap.size w1).alloc (Nat.le_refl _) (.cells (([8, 0, 0] : List Int).map encI).toArray 3)
  have z2 := size_al w1 (.cells (([8, 0, 0] : List Int).map encI).toArray 3)
  obtain ⟨w2, hw2⟩ : ∃ w2, w1.alloc (.cells (([8, 0, 0] : List Int).map encI).toArray 3) = w2 := ⟨_, rfl⟩
  rw [hw2] at s2 b2 z2
  have s3 := sli_new w2 [4, 4, 0]
  have b3 := (Below.refl w2.heap.size w2).alloc (Nat.le_refl _) (.cells (([4, 4, 0] : List Int).map encI).toArray 3)
  obtain ⟨w3, hw3⟩ : ∃ w3, w2.alloc (.cells (([4, 4, 0] : List Int).map encI).toArray 3) = w3 := ⟨_, rfl⟩
  rw [hw3] at s3 b3
  rw [z2, z1] at s3
  rw [z1] at s2
  have e3 : ((w.alloc (.cells #[.int .i64 8, .int .i64 5, .int .i64 3] 3)).alloc (.cells #[.int .i64 8, .int .i64 0, .int .i64 0] 3)).alloc (.cells #[.int .i64 4, .int .i64 4, .int .i64 0] 3) = w3 := by rw [← hw3, ← hw2, ← hw1]; rfl
  rw [e3]
  refine (Way_ok [8, 5, 3] [8, 0, 0] [4, 4, 0] _ _ _ true w3 ((s1.grow b2).grow b3) (by simp) (s2.grow b3) s3 (by decide) r (srch_mono (d := 28502) hr)).mono fun e w' ⟨s, h1, h2, h3⟩ => ⟨?_, Below.andThen (Below.andThen (Below.andThen b1 b2 (Nat.le_refl _)) b3 (Nat.le_refl _)) h3 (Nat.le_refl _)⟩
  obtain ⟨a, c, rfl, _⟩ := OwnP.open h2
  rw [h1, hf.1, hf.2]
  exact ⟨a, c, rfl⟩
theorem aw_Amounts (w : World) : Calls Try.prog 20 #[.slice (some ⟨w.heap.size, 0, none⟩) 2 2] (w.alloc (.cells #[.int .i64 4, .int .i64 6] 3)) fun e w' => ∃ s, e = .returned (.tuple #[s, .int .i64 0]) ∧ w'.ownsRow w.heap.size 3 1 s 4 ([0, 2, 4, 6].map encI) ∧ Below w.heap.size w w' := by
  obtain ⟨r, hr, hf⟩ := evOk_some ev3
  have hf := of_decide_eq_true hf
  have ba := (Below.refl w.heap.size w).alloc (Nat.le_refl _) (.cells #[.int .i64 4, .int .i64 6] 3)
  refine (Amounts_ok [4, 6] _ _ (sli_new w [4, 6]) (by decide) r (srch_mono (d := 28502) hr)).mono fun e w' ⟨s, h1, h2, h3⟩ => ⟨s, h1, ?_, Below.andThen ba h3 (Nat.le_refl _)⟩
  have hl : ([4, 6] : List Int).length = 2 := rfl
  rw [hl, hf] at h2
  exact owns_mono h2 ba.size
theorem aw_Two (w : World) : Calls Try.prog 41 #[.int .i64 3, .int .i64 5, .int .i64 4] w fun e w' => e = .returned (.tuple #[.int .i64 6, .bool true, .int .i64 0]) ∧ Below w.heap.size w w' := by
  refine (Two_ok 3 5 4 (by decide) 20 (by omega) _ _ ev4 ev5 w).mono fun e w' ⟨h1, h2⟩ => ⟨?_, h2⟩
  rw [h1]; rfl
theorem aw_TwoWay (w : World) : Calls Try.prog 42 #[.int .i64 3, .int .i64 5, .int .i64 3, .bool true] w fun e w' => (∃ s, e = .returned (.tuple #[s, .bool true, .int .i64 0]) ∧ OwnP w' w.heap.size s [(-1, 0)]) ∧ Below w.heap.size w w' :=
  (TwoWay_ok 3 5 3 true (by decide) 20 (by omega) _ ev6 w).mono fun e w' ⟨s, h1, h2, h3⟩ => ⟨⟨s, h1, h2⟩, h3⟩
theorem aw_Steps (w : World) : Calls Try.prog 25 #[.slice (some ⟨w.heap.size, 0, none⟩) 1 1, .slice (some ⟨w.heap.size + 1, 0, none⟩) 1 1, .bool false] ((w.alloc (.cells #[.int .i64 2] 3)).alloc (.cells #[.int .i64 0] 3)) fun e w' => (∃ s, e = .returned (.tuple #[s, .int .i64 0]) ∧ OwnP w' w.heap.size s [(-1, 0)]) ∧ Below w.heap.size w w' := by
  have s1 := sli_new w [2]
  have b1 := (Below.refl w.heap.size w).alloc (Nat.le_refl _) (.cells (([2] : List Int).map encI).toArray 3)
  have z1 := size_al w (.cells (([2] : List Int).map encI).toArray 3)
  obtain ⟨w1, hw1⟩ : ∃ w1, w.alloc (.cells (([2] : List Int).map encI).toArray 3) = w1 := ⟨_, rfl⟩
  rw [hw1] at s1 b1 z1
  have s2 := sli_new w1 [0]
  have b2 := (Below.refl w1.heap.size w1).alloc (Nat.le_refl _) (.cells (([0] : List Int).map encI).toArray 3)
  obtain ⟨w2, hw2⟩ : ∃ w2, w1.alloc (.cells (([0] : List Int).map encI).toArray 3) = w2 := ⟨_, rfl⟩
  rw [hw2] at s2 b2
  rw [z1] at s2
  have e2 : (w.alloc (.cells #[.int .i64 2] 3)).alloc (.cells #[.int .i64 0] 3) = w2 := by rw [← hw2, ← hw1]; rfl
  rw [e2]
  have hst : stepsF (padF [2]) (padF [0]) (ssF false ([2] : List Int).length) = [(-1, 0)] := by decide
  refine (Steps_ok [2] [0] _ _ false w2 (s1.grow b2) (by simp) s2 (by decide)).mono fun e w' ⟨s, h1, h2, h3⟩ => ⟨⟨s, h1, ?_⟩, Below.andThen (Below.andThen b1 b2 (Nat.le_refl _)) h3 (Nat.le_refl _)⟩
  rw [hst] at h2
  exact owns_mono h2 (Nat.le_trans b1.size b2.size)
end Go.Proofs.Ytlamppplnojpbaa
namespace Go.Proofs.Ytlamppplnojpbaa
open Go.RowKit Go.Shelf
attribute [local go_sem] Oper.semAt_some
theorem eq48 (W : World) : (Op.equalIn 10000 48 (.agg #[.int .i64 (-1), .int .i64 0]) (.agg #[.int .i64 (-1), .int .i64 0])).run Try.prog W = .ok true W := by kernel_rfl
theorem own1_cells {W : World} {n₀ : Nat} {v : Value} {p : Pt} (h : OwnP W n₀ v [p]) : ∃ g c, v = .slice (some ⟨g, 0, none⟩) 1 c ∧ g < W.heap.size ∧ PtsAt W g 0 [p] := by
  obtain ⟨a, c, rfl, h2⟩ := OwnP.open h
  rcases h2 with ⟨_, _, h3⟩ | ⟨g, _, rfl, h3, _⟩
  · cases h3
  · exact ⟨g, c, rfl, h3.lt, h3⟩
set_option maxRecDepth 100000 in
set_option maxHeartbeats 4000000 in
theorem awake_any (w : World) : Calls Try.prog 24 #[] w fun e w' => e = .returned (.bool true) ∧ Below w.heap.size w w' := by
  go_enter Try.func24, Try.ntmps24
  go_wp2_with fail
  refine (aw_Fewest w).mono ?_
  rintro e w1 ⟨rfl, hb⟩
  have T1 := Lib.hid hb
  clear hb
  go_wp2_with fail
  refine (aw_Way w1).mono ?_
  rintro e w2 ⟨⟨wa, wc, rfl⟩, hb⟩
  have T2 := Lib.hid (Below.andThen T1.out hb (Nat.le_refl _))
  clear hb T1
  go_wp2_with fail
  refine (aw_Amounts w2).mono ?_
  rintro e w3 ⟨sA, rfl, hA, hb⟩
  obtain ⟨gA, cA, rfl, hgA, hiA⟩ := own_ints hA (by simp)
  have T3 := Lib.hid (Below.andThen T2.out hb (Nat.le_refl _))
  have IA := Lib.hid hiA
  have GA := Lib.hid hgA
  clear hb T2 hA hiA hgA
  go_wp2_with fail
  refine (aw_Two w3).mono ?_
  rintro e w4 ⟨rfl, hb⟩
  have T4 := Lib.hid (Below.andThen T3.out hb (Nat.le_refl _))
  have IA4 := Lib.hid (IA.out.below hb GA.out)
  have GA4 := Lib.hid (Nat.lt_of_lt_of_le GA.out hb.size)
  clear hb T3 IA GA
  go_wp2_with fail
  refine (aw_TwoWay w4).mono ?_
  rintro e w5 ⟨⟨sT, rfl, hT⟩, hb⟩
  obtain ⟨gT, cT, rfl, hgT, hpT⟩ := own1_cells hT
  have T5 := Lib.hid (Below.andThen T4.out hb (Nat.le_refl _))
  have IA5 := Lib.hid (IA4.out.below hb GA4.out)
  have GA5 := Lib.hid (Nat.lt_of_lt_of_le GA4.out hb.size)
  have PT := Lib.hid hpT
  clear hb T4 IA4 GA4 hT hpT
  go_wp2_with fail
  refine (aw_Steps w5).mono ?_
  rintro e w6 ⟨⟨sS, rfl, hS⟩, hb⟩
  obtain ⟨gS, cS, rfl, hgS, hpS⟩ := own1_cells hS
  have T6 := Lib.hid (Below.andThen T5.out hb (Nat.le_refl _))
  have IA6 := Lib.hid (IA5.out.below hb GA5.out)
  have GA6 := Lib.hid (Nat.lt_of_lt_of_le GA5.out hb.size)
  have pT6 := PT.out.below hb hgT
  have PT6 := Lib.hid pT6
  have PS6 := Lib.hid hpS
  clear hb T5 IA5 GA5 hS PT hpS pT6
  go_wp2_with fail
  have bq := (Below.refl w6.heap.size w6).alloc (Nat.le_refl _) (.cells #[.int .i64 0, .int .i64 2, .int .i64 4, .int .i64 6] 3)
  have rq := Row.new w6 3 (([0, 2, 4, 6] : List Int).map encI)
  have iq : IntsAt (w6.alloc (.cells #[.int .i64 0, .int .i64 2, .int .i64 4, .int .i64 6] 3)) w6.heap.size 0 [0, 2, 4, 6] := ⟨.inr rq.lt, fun i hi => by
    rw [Nat.zero_add, show (Obj.cells #[.int .i64 0, .int .i64 2, .int .i64 4, .int .i64 6] 3 : Obj) = .cells (([0, 2, 4, 6] : List Int).map encI).toArray 3 from rfl, rq.cell, List.getElem?_map, List.getElem?_eq_getElem hi]; rfl⟩
  have hi4 := ints_any [0, 2, 4, 6] [0, 2, 4, 6] gA w6.heap.size cA 4 _ (IA6.out.below bq GA6.out) iq rfl (by simp)
  rw [show decide (([0, 2, 4, 6] : List Int) = [0, 2, 4, 6]) = true from rfl] at hi4
  refine hi4.mono ?_
  rintro e w7 ⟨rfl, hb⟩
  have hb7 := Below.andThen bq hb (Nat.le_refl _)
  have T7 := Lib.hid (Below.andThen T6.out hb7 (Nat.le_refl _))
  have pT := PT6.out.below hb7 PT6.out.lt
  have pS := PS6.out.below hb7 PS6.out.lt
  have tx : w7.cell? ⟨gT, 0, none⟩ = some (.int .i64 (-1)) := by simpa using pT.x 0 (by simp)
  have ty : w7.cell? ⟨gT, 1, none⟩ = some (.int .i64 0) := by simpa using pT.y 0 (by simp)
  have sx : w7.cell? ⟨gS, 0, none⟩ = some (.int .i64 (-1)) := by simpa using pS.x 0 (by simp)
  have sy : w7.cell? ⟨gS, 1, none⟩ = some (.int .i64 0) := by simpa using pS.y 0 (by simp)
  have HE := eq48 w7
  clear hb hb7 bq rq iq hi4 pT pS T6 IA6 GA6 PT6 PS6
  go_wp2_with fail
  have hck := Check_any [] (.slice none 0 0) w7 ⟨none, 0, rfl, Nat.le_refl _, .inl rfl⟩ (by simp)
  rw [show errJ [] = 20 from rfl] at hck
  refine hck.mono ?_
  rintro e w8 ⟨rfl, hb⟩
  have T8 := Lib.hid (Below.andThen T7.out hb (Nat.le_refl _))
  clear hb T7 hck tx ty sx sy HE
  go_wp2_with fail
  go_ret
  exact ⟨rfl, T8.out⟩
end Go.Proofs.Ytlamppplnojpbaa
namespace Go.Proofs.Ytlamppplnojpbaa
open Go.RowKit Go.Shelf
attribute [local go_sem] Oper.semAt_some
/-- what 'tame' makes of a number -/
def tamA (x : Int) : Int := 1 + x % 18446744073709551616 % 12
theorem u64_wrap (x : Int) : IntKind.u64.wrap x = x % 18446744073709551616 := by
  unfold IntKind.wrap
  simp [IntKind.signed, IntKind.bits]
theorem tamA_raw (x : Int) : wrap64 (1 + wrap64 ((IntKind.u64.wrap x).tmod 12)) = tamA x := by
  have t1 : (IntKind.u64.wrap x).tmod 12 = x % 18446744073709551616 % 12 := by rw [u64_wrap]; exact Int.tmod_eq_emod_of_nonneg (by omega)
  unfold tamA
  rw [t1]
  unfold wrap64
  omega
theorem tamA_bd (x : Int) : 1 ≤ tamA x ∧ tamA x ≤ 12 := by unfold tamA; omega
def tamL (zs : List Int) (k : Nat) : List Int := (zs.take k).map tamA
theorem tamL_succ (zs : List Int) (k : Nat) (h : k < zs.length) : tamL zs (k + 1) = tamL zs k ++ [tamA zs[k]] := by
  unfold tamL
  rw [List.take_add_one, List.map_append, List.getElem?_eq_getElem h]; rfl
theorem tamL_len (zs : List Int) (k : Nat) (h : k ≤ zs.length) : (tamL zs k).length = k := by
  unfold tamL; rw [List.length_map, List.length_take]; omega
/-- jugs of any numbers -/
def tameF (zs : List Int) (most : Nat) : List Int := if tamL zs (min zs.length most) = [] then [3] else tamL zs (min zs.length most)
theorem tameF_jugs (zs : List Int) (most : Nat) (hm : most ≤ 4) : jugsB (tameF zs most) = true := by
  unfold tameF
  split
  · decide
  · rename_i hne
    have hl := tamL_len zs (min zs.length most) (by omega)
    have h1 : 1 ≤ (tamL zs (min zs.length most)).length := List.length_pos_iff.2 hne
    unfold jugsB
    simp only [Bool.and_eq_true, decide_eq_true_eq, List.all_eq_true]
    refine ⟨⟨h1, by omega⟩, fun z hz => ?_⟩
    unfold tamL at hz
    obtain ⟨x, _, rfl⟩ := List.mem_map.1 hz
    have := tamA_bd x
    unfold sizeB
    simp only [Bool.and_eq_true, decide_eq_true_eq]
    omega
theorem sli_own {W : World} {n₀ k : Nat} {zs : List Int} {v : Value} (h : W.ownsRow n₀ 3 1 v k (zs.map encI)) : SlI W v zs := by
  have hk : k = zs.length := by have := h.1; rw [List.length_map] at this; omega
  by_cases hz : zs = []
  · subst hz
    have hk0 : k = 0 := by simpa using hk
    rcases h.2 with ⟨rfl, _⟩ | ⟨g, cap, cur, rfl, _, _, hc, _⟩
    · exact ⟨none, 0, rfl, Nat.le_refl _, .inl rfl⟩
    · exact ⟨_, cap, by rw [hk0]; rfl, by simp, .inl rfl⟩
  · obtain ⟨g, cap, rfl, hg, hi⟩ := own_ints h hz
    have hc : zs.length ≤ cap := by
      rcases h.2 with ⟨e, _⟩ | ⟨g', cap', cur, e, _, _, hc, _⟩
      · cases e
      · cases e; omega
    exact ⟨_, cap, rfl, hc, .inr ⟨g, 0, rfl, hg, hi⟩⟩
theorem own_one (W : World) (x : Int) (n₀ : Nat) (h : n₀ ≤ W.heap.size) : (W.alloc (.cells #[.int .i64 x] 3)).ownsRow n₀ 3 1 (.slice (some ⟨W.heap.size, 0, none⟩) 1 1) 1 [.int .i64 x] :=
  ⟨rfl, .inr ⟨W.heap.size, 1, #[.int .i64 x], rfl, h, World.alloc_heap_new W _, Nat.le_refl _, by decide, rfl, rfl⟩⟩
set_option maxRecDepth 100000 in
set_option maxHeartbeats 1000000 in
theorem tame_any (zs : List Int) (v : Value) (most : Nat) (hm : most ≤ 100) (w : World) (hv : SlI w v zs) (hl : zs.length ≤ 9223372036854775807) :
    Calls Try.prog 31 #[v, .int .i64 (most : Int)] w fun e w' => ∃ s, e = .returned s ∧ w'.ownsRow w.heap.size 3 1 s (tameF zs most).length ((tameF zs most).map encI) ∧ Below w.heap.size w w' := by
  obtain ⟨i0, hi, hz0, hz1, hz2⟩ := info_parts info3
  obtain ⟨a, c, rfl, hc, hs⟩ := hv
  have HS := Lib.hid hs
  clear hs
  go_enter Try.func31, Try.ntmps31
  go_wp2_with fail
  go_loopw [5, 6] (fun lv iv wr => ∃ k : Nat, k ≤ min zs.length most ∧ iv = .int .i64 (k : Int) ∧ Hid (wr.ownsRow w.heap.size 3 1 lv (tamL zs k).length ((tamL zs k).map encI) ∧ Below w.heap.size w wr)) (fun _ iv _ => min zs.length most - (intOf iv).toNat)
  case atStart => exact ⟨0, by omega, rfl, Lib.hid ⟨World.ownsRow_nil _ _ _ _, Below.refl _ _⟩⟩
  case round =>
    obtain ⟨k, hk, rfl, HO⟩ := hrel
    have kw : IntKind.i64.wrap ((k : Int) + 1) = ((k + 1 : Nat) : Int) := by rw [i64_of _ (by omega) (by omega)]; omega
    by_cases h12 : k < zs.length ∧ k < most
    · obtain ⟨h1, h2⟩ := h12
      have hd1 : decide ((k : Int) < (zs.length : Int)) = true := decide_eq_true (by omega)
      have hd2 : decide ((k : Int) < (most : Int)) = true := decide_eq_true (by omega)
      obtain ⟨b, o, rfl, hbl, hat⟩ : ∃ b o, a = some ⟨b, o, none⟩ ∧ b < w.heap.size ∧ IntsAt w b o zs := HS.out.resolve_left (fun e => by rw [e] at h1; simp at h1)
      have ck := (hat.below HO.out.2 hbl).at_ k h1
      have hsn := tamL_succ zs k h1
      have hll := tamL_len zs k (by omega)
      have hraw := tamA_raw zs[k]
      generalize tamA zs[k] = tz at *
      have HSN := Lib.hid hsn
      have HH := Lib.hid hat
      generalize zs[k] = z at *
      generalize tamL zs k = LL at *
      clear hsn hat
      go_wp2_with (at_builtin; refine wpList_append_own_at _ rfl _ _ 22 rfl w.heap.size 3 i0 (.int .i64 0) 1 8 Try.underlying22 hi hz0 hz1 hz2 rfl (by decide) _ _ _ rfl (HO.out.1.alloc _) _ 1 1 [encI tz] rfl rfl (cell_one_at _ _ _ _ (by simp)) (by simp [Value.oneCell', encI]) (by unfold maxLen; omega) (by omega) (Nat.le_trans HO.out.2.size (by simp)) ?_; intro v' w2' hown' hgrow hnil hat'; have HR2 := Lib.hid hown'; have HB2 := Lib.hid (own_below HO.out.1 HO.out.2 hgrow); clear hown' hgrow hnil hat')
      go_roundw
      case rel => exact ⟨k + 1, by omega, by simp, by rw [HSN.out]; exact Lib.hid ⟨by simpa using HR2.out, HB2.out⟩⟩
      case measure => simp [intOf]; omega
    · have hkm : k = min zs.length most := by omega
      have fin : ∀ (v : Value) (W : World), W.ownsRow w.heap.size 3 1 v (tamL zs k).length ((tamL zs k).map encI) → k ≠ 0 → W.ownsRow w.heap.size 3 1 v (tameF zs most).length ((tameF zs most).map encI) := fun v W h hk0 => by
        unfold tameF
        rw [← hkm, if_neg (fun e => hk0 (by have := tamL_len zs k (by omega); rw [e] at this; simpa using this.symm))]
        exact h
      have fin0 : k = 0 → tameF zs most = [3] := fun hk0 => by
        unfold tameF
        rw [← hkm, hk0, if_pos (by simp [tamL])]
      have FIN := Lib.hid fin
      have FIN0 := Lib.hid fin0
      have LLN := Lib.hid (tamL_len zs k (by omega))
      have hlen : ∃ aa cc, u5 = .slice aa k cc := by
        rcases HO.out.1.2 with ⟨h, h0⟩ | ⟨g, cap, cur, h, _⟩
        · exact ⟨none, 0, by rw [h, LLN.out.symm, h0]⟩
        · exact ⟨_, cap, by rw [h, LLN.out]⟩
      obtain ⟨aa, cc, rfl⟩ := hlen
      have hkz := Lib.hid hkm
      clear fin fin0
      by_cases hk0 : k = 0
      · have HK0 := Lib.hid hk0
        have hd0 : ((k : Int) == 0) = true := by simp [hk0]
        have hd0' : decide ((k : Int) = 0) = true := by simp [hk0]
        rcases Nat.lt_or_ge k zs.length with h1 | h1
        · have hd1 : decide ((k : Int) < (zs.length : Int)) = true := decide_eq_true (by omega)
          have hd2 : decide ((k : Int) < (most : Int)) = false := decide_eq_false (by omega)
          have hd2n : decide (k < most) = false := decide_eq_false (by omega)
          have hd1n : decide (k < zs.length) = true := decide_eq_true (by omega)
          clear hk0 hkm h12
          go_wp2_with fail
          go_ret
          refine ⟨_, rfl, ?_, Below.al HO.out.2 (Nat.le_refl _) _⟩
          rw [FIN0.out HK0.out]
          exact own_one wr 3 w.heap.size HO.out.2.size
        · have hd1 : decide ((k : Int) < (zs.length : Int)) = false := decide_eq_false (by omega)
          clear hk0 hkm h12
          go_wp2_with fail
          go_ret
          refine ⟨_, rfl, ?_, Below.al HO.out.2 (Nat.le_refl _) _⟩
          rw [FIN0.out HK0.out]
          exact own_one wr 3 w.heap.size HO.out.2.size
      · have hd0 : ((k : Int) == 0) = false := by simp; omega
        have hd0' : decide ((k : Int) = 0) = false := decide_eq_false (by omega)
        have HK0 := Lib.hid hk0
        rcases Nat.lt_or_ge k zs.length with h1 | h1
        · have hd1 : decide ((k : Int) < (zs.length : Int)) = true := decide_eq_true (by omega)
          have hd2 : decide ((k : Int) < (most : Int)) = false := decide_eq_false (by omega)
          have hd2n : decide (k < most) = false := decide_eq_false (by omega)
          have hd1n : decide (k < zs.length) = true := decide_eq_true (by omega)
          clear hk0 hkm h12
          go_wp2_with fail
          go_ret
          exact ⟨_, rfl, FIN.out _ _ HO.out.1 HK0.out, HO.out.2⟩
        · have hd1 : decide ((k : Int) < (zs.length : Int)) = false := decide_eq_false (by omega)
          clear hk0 hkm h12
          go_wp2_with fail
          go_ret
          exact ⟨_, rfl, FIN.out _ _ HO.out.1 HK0.out, HO.out.2⟩
/-- what 'filled' makes of a number -/
def filA (x s : Int) : Int := x % 18446744073709551616 % (s + 1)
theorem filA_raw (x s : Int) (hs : 1 ≤ s ∧ s ≤ 12) : wrap64 ((IntKind.u64.wrap x).tmod (IntKind.u64.wrap (s + 1))) = filA x s := by
  have e1 : IntKind.u64.wrap (s + 1) = s + 1 := by rw [u64_wrap]; omega
  have t1 : (IntKind.u64.wrap x).tmod (s + 1) = x % 18446744073709551616 % (s + 1) := by rw [u64_wrap]; exact Int.tmod_eq_emod_of_nonneg (by omega)
  unfold filA
  rw [e1, t1]
  have h1 := Int.emod_nonneg (x % 18446744073709551616) (show s + 1 ≠ 0 by omega)
  have h2 := Int.emod_lt_of_pos (x % 18446744073709551616) (show (0 : Int) < s + 1 by omega)
  unfold wrap64
  omega
def filI (ss ls : List Int) (k : Nat) : Int := if k < ls.length then filA (ls.getD k 0) (ss.getD k 0) else 0
def filL (ss ls : List Int) (k : Nat) : List Int := (List.range k).map (filI ss ls)
theorem filL_succ (ss ls : List Int) (k : Nat) : filL ss ls (k + 1) = filL ss ls k ++ [filI ss ls k] := by unfold filL; rw [List.range_succ, List.map_append]; rfl
theorem filL_len (ss ls : List Int) (k : Nat) : (filL ss ls k).length = k := by simp [filL]
def filF (ss ls : List Int) : List Int := filL ss ls ss.length
theorem filF_fits {ss : List Int} (ls : List Int) (hj : jugsB ss = true) : fitsB ss (filF ss ls) = true := by
  unfold jugsB at hj
  simp only [Bool.and_eq_true, decide_eq_true_eq, List.all_eq_true] at hj
  unfold fitsB
  simp only [Bool.and_eq_true, decide_eq_true_eq, List.all_eq_true]
  refine ⟨filL_len _ _ _, fun i hi => ?_⟩
  have hi := List.mem_range.1 hi
  rw [filF, filL_len] at hi
  have e : (filF ss ls).getD i 0 = filI ss ls i := by
    unfold filF filL
    rw [List.getD_eq_getElem?_getD, List.getElem?_map, List.getElem?_range hi]; rfl
  rw [e]
  have hz := hj.2 ss[i] (List.getElem_mem hi)
  unfold sizeB at hz
  simp only [Bool.and_eq_true, decide_eq_true_eq] at hz
  unfold filI
  rw [getD_lt hi]
  split
  · unfold filA
    have h1 := Int.emod_nonneg ((ls.getD i 0) % 18446744073709551616) (show ss[i] + 1 ≠ 0 by omega)
    have h2 := Int.emod_lt_of_pos ((ls.getD i 0) % 18446744073709551616) (show (0 : Int) < ss[i] + 1 by omega)
    omega
  · omega
set_option maxRecDepth 100000 in
set_option maxHeartbeats 1000000 in
theorem filled_any (ss ls : List Int) (v u : Value) (w : World) (hv : SlI w v ss) (hu : SlI w u ls) (hj : jugsB ss = true) (hl : ls.length ≤ 9223372036854775807) :
    Calls Try.prog 32 #[v, u] w fun e w' => ∃ s, e = .returned s ∧ w'.ownsRow w.heap.size 3 1 s (filF ss ls).length ((filF ss ls).map encI) ∧ Below w.heap.size w w' := by
  obtain ⟨i0, hi, hz0, hz1, hz2⟩ := info_parts info3
  obtain ⟨a, c, rfl, hc, hs⟩ := hv
  obtain ⟨a2, c2, rfl, hc2, hs2⟩ := hu
  have HS2 := Lib.hid hs2
  have hjj := hj
  unfold jugsB at hjj
  simp only [Bool.and_eq_true, decide_eq_true_eq, List.all_eq_true] at hjj
  obtain ⟨⟨hn1, hn4⟩, hsz⟩ := hjj
  obtain ⟨b, o, rfl, hbl, hat⟩ : ∃ b o, a = some ⟨b, o, none⟩ ∧ b < w.heap.size ∧ IntsAt w b o ss := hs.resolve_left (fun e => by rw [e] at hn1; simp at hn1)
  have HAT := Lib.hid hat
  have HBL := Lib.hid hbl
  have HSZ := Lib.hid hsz
  clear hs2 hs hj hat hbl hsz
  go_enter Try.func32, Try.ntmps32
  go_wp2_with fail
  go_loopw [5, 6] (fun lv iv wr => ∃ k : Nat, k ≤ ss.length ∧ iv = .int .i64 (k : Int) ∧ Hid (wr.ownsRow w.heap.size 3 1 lv (filL ss ls k).length ((filL ss ls k).map encI) ∧ Below w.heap.size w wr)) (fun _ iv _ => ss.length - (intOf iv).toNat)
  case atStart => exact ⟨0, by omega, rfl, Lib.hid ⟨World.ownsRow_nil _ _ _ _, Below.refl _ _⟩⟩
  case round =>
    obtain ⟨k, hk, rfl, HO⟩ := hrel
    have kw : IntKind.i64.wrap ((k : Int) + 1) = ((k + 1 : Nat) : Int) := by rw [i64_of _ (by omega) (by omega)]; omega
    by_cases h1 : k < ss.length
    · have hd1 : decide ((k : Int) < (ss.length : Int)) = true := decide_eq_true (by omega)
      have hd1n : decide (k < ss.length) = true := decide_eq_true h1
      have ck := (HAT.out.below HO.out.2 HBL.out).at_ k h1
      have hzb : 1 ≤ ss[k] ∧ ss[k] ≤ 12 := by
        have h := HSZ.out ss[k] (List.getElem_mem h1)
        unfold sizeB at h
        simp only [Bool.and_eq_true, decide_eq_true_eq] at h
        exact h
      have hsn := filL_succ ss ls k
      have hll := filL_len ss ls k
      by_cases h2 : k < ls.length
      · have hd2 : decide ((k : Int) < (ls.length : Int)) = true := decide_eq_true (by omega)
        have hd2n : decide (k < ls.length) = true := decide_eq_true h2
        obtain ⟨b2, o2, rfl, hbl2, hat2⟩ : ∃ b o, a2 = some ⟨b, o, none⟩ ∧ b < w.heap.size ∧ IntsAt w b o ls := HS2.out.resolve_left (fun e => by rw [e] at h2; simp at h2)
        have ck2 := (hat2.below HO.out.2 hbl2).at_ k h2
        have hfi : filI ss ls k = filA ls[k] ss[k] := by unfold filI; rw [if_pos h2, getD_lt h1, getD_lt h2]
        have hraw := filA_raw ls[k] ss[k] hzb
        have hw1 : wrap64 (ss[k] + 1) = ss[k] + 1 := by unfold wrap64; omega
        have hnz : IntKind.u64.wrap (ss[k] + 1) ≠ 0 := by rw [u64_wrap]; omega
        rw [hfi] at hsn
        generalize filA ls[k] ss[k] = tz at *
        have HSN := Lib.hid hsn
        have HH := Lib.hid hat2
        have HHZ := Lib.hid hzb
        clear hfi hsn hat2 hzb
        generalize ls[k] = y at *
        generalize ss[k] = z at *
        generalize filL ss ls k = LL at *
        go_wp2_with fail
        go_quiet (fail)
        have hO1 := own_grow HO.out.1 (below_drewN (Below.refl wr.heap.size wr) nq)
        have hB1 := below_drewN HO.out.2 nq
        have HO1 := Lib.hid hO1
        have HB1 := Lib.hid hB1
        clear hO1 hB1
        go_wp2_with (at_builtin; refine wpList_append_own_at _ rfl _ _ 22 rfl w.heap.size 3 i0 (.int .i64 0) 1 8 Try.underlying22 hi hz0 hz1 hz2 rfl (by decide) _ _ _ rfl (HO1.out.alloc _) _ 1 1 [encI tz] rfl rfl (cell_one_at _ _ _ _ (by simp)) (by simp [Value.oneCell', encI]) (by unfold maxLen; omega) (by omega) (Nat.le_trans HB1.out.size (by simp)) ?_; intro v' w2' hown' hgrow hnil hat'; have HR2 := Lib.hid hown'; have HB2 := Lib.hid (own_below HO1.out HB1.out hgrow); clear hown' hgrow hnil hat')
        go_roundw
        case rel => exact ⟨k + 1, by omega, by simp, by rw [HSN.out]; exact Lib.hid ⟨by simpa using HR2.out, HB2.out⟩⟩
        case measure => simp [intOf]; omega
      · have hd2 : decide ((k : Int) < (ls.length : Int)) = false := decide_eq_false (by omega)
        have hd2n : decide (k < ls.length) = false := decide_eq_false h2
        have hfi : filI ss ls k = 0 := by unfold filI; rw [if_neg h2]
        rw [hfi] at hsn
        have HSN := Lib.hid hsn
        clear hfi hsn hzb ck
        generalize filL ss ls k = LL at *
        go_wp2_with (at_builtin; refine wpList_append_own_at _ rfl _ _ 22 rfl w.heap.size 3 i0 (.int .i64 0) 1 8 Try.underlying22 hi hz0 hz1 hz2 rfl (by decide) _ _ _ rfl (HO.out.1.alloc _) _ 1 1 [encI 0] rfl rfl (cell_one_at _ _ _ _ (by simp)) (by simp [Value.oneCell', encI]) (by unfold maxLen; omega) (by omega) (Nat.le_trans HO.out.2.size (by simp)) ?_; intro v' w2' hown' hgrow hnil hat'; have HR2 := Lib.hid hown'; have HB2 := Lib.hid (own_below HO.out.1 HO.out.2 hgrow); clear hown' hgrow hnil hat')
        go_roundw
        case rel => exact ⟨k + 1, by omega, by simp, by rw [HSN.out]; exact Lib.hid ⟨by simpa using HR2.out, HB2.out⟩⟩
        case measure => simp [intOf]; omega
    · have hd1 : decide ((k : Int) < (ss.length : Int)) = false := decide_eq_false (by omega)
      have hd1n : decide (k < ss.length) = false := decide_eq_false h1
      obtain rfl : k = ss.length := by omega
      go_wp2_with fail
      go_ret
      exact ⟨_, rfl, HO.out.1, HO.out.2⟩
end Go.Proofs.Ytlamppplnojpbaa
namespace Go.Proofs.Ytlamppplnojpbaa
open Go.RowKit Go.Shelf
attribute [local go_sem] Oper.semAt_some
theorem sli_cells {W : World} {v : Value} {zs : List Int} (h : SlI W v zs) (hz : zs ≠ []) : ∃ b o c, v = .slice (some ⟨b, o, none⟩) zs.length c ∧ zs.length ≤ c ∧ b < W.heap.size ∧ IntsAt W b o zs := by
  obtain ⟨a, c, rfl, hc, hs⟩ := h
  rcases hs with h | ⟨b, o, rfl, hb, hi⟩
  · exact absurd h hz
  · exact ⟨b, o, c, rfl, hc, hb, hi⟩
set_option maxRecDepth 100000 in
set_option maxHeartbeats 1000000 in
/-- no step -/
theorem rStep_none (ss fs : List Int) (v u : Value) (a : Int) (w : World) (hv : SlI w v ss) (hu : SlI w u fs) (ha : -1 ≤ a ∧ a < (ss.length : Int)) (_hn : ss.length ≤ 1000) :
    Calls Try.prog 61 #[v, u, .agg #[.int .i64 a, .int .i64 a]] w fun e w' => e = .returned (.tuple #[u, .bool false]) ∧ Below w.heap.size w w' := by
  obtain ⟨va, vc, rfl, _⟩ := hv
  obtain ⟨ua, uc, rfl, _⟩ := hu
  have ba := (Below.refl w.heap.size w).alloc (Nat.le_refl _) (.cells #[.int .i64 a, .int .i64 a] 48)
  have r := Row.new w 48 [.int .i64 a, .int .i64 a]
  have c0 : (w.alloc (.cells #[.int .i64 a, .int .i64 a] 48)).cell? ⟨w.heap.size, 0, none⟩ = some (.int .i64 a) := r.cell 0
  have c1 : (w.alloc (.cells #[.int .i64 a, .int .i64 a] 48)).cell? ⟨w.heap.size, 1, none⟩ = some (.int .i64 a) := r.cell 1
  have BA := Lib.hid ba
  have d1 : decide (a < -1) = false := decide_eq_false (by omega)
  have d2 : decide (a ≥ (ss.length : Int)) = false := decide_eq_false (by omega)
  have d2' : decide ((ss.length : Int) ≤ a) = false := decide_eq_false (by omega)
  clear ba r
  go_enter Try.func61, Try.ntmps61
  go_wp2_with fail
  go_quiet (fail)
  go_wp2_with fail
  go_ret2
  exact ⟨rfl, below_drewN BA.out _⟩
theorem own_slice {W : World} {n₀ n : Nat} {v : Value} {xs : List Value} (h : W.ownsRow n₀ 3 1 v n xs) (hn : 0 < n) : ∃ g cap, v = .slice (some ⟨g, 0, none⟩) n cap ∧ n ≤ cap := by
  rcases h.2 with ⟨_, h0⟩ | ⟨g, cap, cur, hv, _, _, hc, _⟩
  · omega
  · exact ⟨g, cap, hv, hc⟩
theorem own_cell {W : World} {n₀ n g cap : Nat} {zs : List Int} (h : W.ownsRow n₀ 3 1 (.slice (some ⟨g, 0, none⟩) n cap) n (zs.map encI)) (j : Nat) (hj : j < n) : W.cell? ⟨g, j, none⟩ = some (.int .i64 (zs.getD j 0)) ∧ W.frozen? ⟨g, j, none⟩ = false := by
  refine ⟨?_, h.frozenAt j⟩
  have hl : zs.length = n := by have := h.1; rw [List.length_map] at this; omega
  rw [h.cellAt j (by omega), List.getElem?_map, List.getElem?_eq_getElem (by omega), getD_lt (by omega)]; rfl
theorem own_put {W : World} {n₀ n g cap : Nat} {zs : List Int} (h : W.ownsRow n₀ 3 1 (.slice (some ⟨g, 0, none⟩) n cap) n (zs.map encI)) (j : Nat) (x : Int) : (W.setCell ⟨g, j, none⟩ (.int .i64 x)).ownsRow n₀ 3 1 (.slice (some ⟨g, 0, none⟩) n cap) n ((zs.set j x).map encI) := by
  have h2 := (h.stored j (.int .i64 x)).1
  rw [List.map_set]; exact h2
theorem IntsAt.cells {W : World} {b o : Nat} {zs : List Int} (h : IntsAt W b o zs) : ∀ j u, (zs.map encI)[j]? = some u → W.cell? ((⟨b, o, none⟩ : Addr).add j) = some u := fun j u hj => by
  rw [Go.WideShapes.add_plain]
  by_cases hl : j < zs.length
  · rw [List.getElem?_map, List.getElem?_eq_getElem hl] at hj
    cases hj
    exact h.at_ j hl
  · rw [List.getElem?_eq_none (by rw [List.length_map]; omega)] at hj; cases hj
set_option maxRecDepth 100000 in
set_option maxHeartbeats 1000000 in
/-- a jug is filled from the sea -/
theorem rStep_sea (ss fs : List Int) (v u : Value) (b : Nat) (w : World) (hv : SlI w v ss) (hu : SlI w u fs) (n : Nat) (hsl : ss.length = n) (hl : fs.length = n) (hb : b < n) (hn : n ≤ 1000) :
    Calls Try.prog 61 #[v, u, .agg #[.int .i64 (-1), .int .i64 (b : Int)]] w fun e w' => ∃ s, e = .returned (.tuple #[s, .bool true]) ∧ w'.ownsRow w.heap.size 3 1 s n ((afterF ss fs (-1) (b : Int)).map encI) ∧ Below w.heap.size w w' := by
  obtain ⟨i0, hi, hz0, hz1, hz2⟩ := info_parts info3
  obtain ⟨vb, vo, vc, rfl, hvc, hvb, hvi⟩ := sli_cells hv (fun e => by rw [e, List.length_nil] at hsl; omega)
  obtain ⟨ub, uo, uc, rfl, huc, hub, hui⟩ := sli_cells hu (fun e => by rw [e, List.length_nil] at hl; omega)
  have ba := (Below.refl w.heap.size w).alloc (Nat.le_refl _) (.cells #[.int .i64 (-1), .int .i64 (b : Int)] 48)
  have r := Row.new w 48 [.int .i64 (-1), .int .i64 (b : Int)]
  have c0 : (w.alloc (.cells #[.int .i64 (-1), .int .i64 (b : Int)] 48)).cell? ⟨w.heap.size, 0, none⟩ = some (.int .i64 (-1)) := r.cell 0
  have c1 : (w.alloc (.cells #[.int .i64 (-1), .int .i64 (b : Int)] 48)).cell? ⟨w.heap.size, 1, none⟩ = some (.int .i64 (b : Int)) := r.cell 1
  have BA := Lib.hid ba
  have SZ := Lib.hid (size_al w (.cells #[.int .i64 (-1), .int .i64 (b : Int)] 48))
  have HVI := Lib.hid hvi
  have HUI := Lib.hid hui
  have HB0 := Lib.hid (And.intro hvb hub)
  have d1 : decide ((-1 : Int) < -1) = false := by decide
  have d2 : decide ((-1 : Int) ≥ (n : Int)) = false := decide_eq_false (by omega)
  have d3 : decide ((b : Int) < -1) = false := decide_eq_false (by omega)
  have d4 : decide ((b : Int) ≥ (n : Int)) = false := decide_eq_false (by omega)
  have d5 : ((-1 : Int) == (b : Int)) = false := by rw [beq_eq_false_iff_ne]; omega
  have d6 : decide ((-1 : Int) = (b : Int)) = false := decide_eq_false (by omega)
  have hzb : ∃ zb, ss[b]? = some zb ∧ afterF ss fs (-1) (b : Int) = fs.set b zb := ⟨ss[b], List.getElem?_eq_getElem (by omega), by unfold afterF; rw [if_pos rfl, Int.toNat_natCast, getD_lt (by omega)]⟩
  obtain ⟨zb, hzb, hfin⟩ := hzb
  have HFIN := Lib.hid hfin
  have HCB := Lib.hid (fun (W : World) (hb' : Below w.heap.size w W) => show W.cell? ⟨vb, vo + b, none⟩ = some (.int .i64 zb) by
    have h := (hvi.below hb' hvb).at_ b (by omega)
    rw [List.getElem?_eq_getElem (by omega)] at hzb
    rw [h, Option.some.inj hzb])
  clear hzb hfin
  clear ba r hvi hui hvb hub
  have HSN := Lib.hid hsl
  have HFN := Lib.hid hl
  rw [hsl, hl]
  rw [hsl] at hvc
  rw [hl] at huc
  clear hl hsl
  go_enter Try.func61, Try.ntmps61
  go_wp2_with fail
  go_quiet (fail)
  have HBD := Lib.hid (below_drewN BA.out nq)
  clear c0 c1
  go_wp2_with (at_builtin; refine wpList_append_own_at _ rfl _ _ 22 rfl w.heap.size 3 i0 (.int .i64 0) 1 8 Try.underlying22 hi hz0 hz1 hz2 rfl (by decide) (.slice none 0 0) 0 [] rfl (World.ownsRow_nil _ _ _ _) ⟨ub, uo, none⟩ n uc (fs.map encI) rfl (by rw [List.length_map, HFN.out]; omega) (HUI.out.below HBD.out HB0.out.2).cells (fun x hx => by obtain ⟨y, _, rfl⟩ := List.mem_map.1 hx; simp [Value.oneCell', encI]) (by unfold maxLen; omega) (by omega) HBD.out.size ?_; intro v' w2 hown hgrow hnil hat'; have HR2 := Lib.hid (show World.ownsRow w2 w.heap.size 3 1 v' n (fs.map encI) by simpa using hown); have HB2 := Lib.hid (show Below w.heap.size w w2 from HBD.out.grown hgrow HBD.out.size (fun k e => by cases e)); obtain ⟨g7, cap7, hv7, hc7⟩ := own_slice HR2.out (by omega); subst hv7; have cb := HCB.out w2 HB2.out; obtain ⟨cg, cf⟩ := own_cell HR2.out b hb; clear hown hgrow hnil hat')
  go_ret2
  refine ⟨_, rfl, ?_, ?_⟩
  · rw [HFIN.out]; exact own_put HR2.out b zb
  · exact HB2.out.grown (one_set w2 g7 b (.int .i64 zb)) HB2.out.size (fun k e => by cases e; exact (HR2.out.lt g7 rfl).1)
set_option maxRecDepth 100000 in
set_option maxHeartbeats 1000000 in
/-- a jug is emptied into the sea -/
theorem rStep_out (ss fs : List Int) (v u : Value) (a : Nat) (w : World) (hv : SlI w v ss) (hu : SlI w u fs) (n : Nat) (hsl : ss.length = n) (hl : fs.length = n) (hb : a < n) (hn : n ≤ 1000) :
    Calls Try.prog 61 #[v, u, .agg #[.int .i64 (a : Int), .int .i64 (-1)]] w fun e w' => ∃ s, e = .returned (.tuple #[s, .bool true]) ∧ w'.ownsRow w.heap.size 3 1 s n ((afterF ss fs (a : Int) (-1)).map encI) ∧ Below w.heap.size w w' := by
  obtain ⟨i0, hi, hz0, hz1, hz2⟩ := info_parts info3
  obtain ⟨vb, vo, vc, rfl, hvc, hvb, hvi⟩ := sli_cells hv (fun e => by rw [e, List.length_nil] at hsl; omega)
  obtain ⟨ub, uo, uc, rfl, huc, hub, hui⟩ := sli_cells hu (fun e => by rw [e, List.length_nil] at hl; omega)
  have ba := (Below.refl w.heap.size w).alloc (Nat.le_refl _) (.cells #[.int .i64 (a : Int), .int .i64 (-1)] 48)
  have r := Row.new w 48 [.int .i64 (a : Int), .int .i64 (-1)]
  have c0 : (w.alloc (.cells #[.int .i64 (a : Int), .int .i64 (-1)] 48)).cell? ⟨w.heap.size, 0, none⟩ = some (.int .i64 (a : Int)) := r.cell 0
  have c1 : (w.alloc (.cells #[.int .i64 (a : Int), .int .i64 (-1)] 48)).cell? ⟨w.heap.size, 1, none⟩ = some (.int .i64 (-1)) := r.cell 1
  have BA := Lib.hid ba
  have SZ := Lib.hid (size_al w (.cells #[.int .i64 (a : Int), .int .i64 (-1)] 48))
  have HVI := Lib.hid hvi
  have HUI := Lib.hid hui
  have HB0 := Lib.hid (And.intro hvb hub)
  have d1 : decide ((-1 : Int) < -1) = false := by decide
  have d2 : decide ((-1 : Int) ≥ (n : Int)) = false := decide_eq_false (by omega)
  have d3 : decide ((a : Int) < -1) = false := decide_eq_false (by omega)
  have d4 : decide ((a : Int) ≥ (n : Int)) = false := decide_eq_false (by omega)
  have d5 : ((a : Int) == (-1 : Int)) = false := by rw [beq_eq_false_iff_ne]; omega
  have d6 : decide ((a : Int) = (-1 : Int)) = false := decide_eq_false (by omega)
  have hfin : afterF ss fs (a : Int) (-1) = fs.set a 0 := by unfold afterF; rw [if_neg (by omega), if_pos rfl, Int.toNat_natCast]
  have HFIN := Lib.hid hfin
  clear hfin
  clear ba r hvi hui hvb hub
  have HSN := Lib.hid hsl
  have HFN := Lib.hid hl
  rw [hsl, hl]
  rw [hsl] at hvc
  rw [hl] at huc
  clear hl hsl
  go_enter Try.func61, Try.ntmps61
  go_wp2_with fail
  go_quiet (fail)
  have HBD := Lib.hid (below_drewN BA.out nq)
  clear c0 c1
  go_wp2_with (at_builtin; refine wpList_append_own_at _ rfl _ _ 22 rfl w.heap.size 3 i0 (.int .i64 0) 1 8 Try.underlying22 hi hz0 hz1 hz2 rfl (by decide) (.slice none 0 0) 0 [] rfl (World.ownsRow_nil _ _ _ _) ⟨ub, uo, none⟩ n uc (fs.map encI) rfl (by rw [List.length_map, HFN.out]; omega) (HUI.out.below HBD.out HB0.out.2).cells (fun x hx => by obtain ⟨y, _, rfl⟩ := List.mem_map.1 hx; simp [Value.oneCell', encI]) (by unfold maxLen; omega) (by omega) HBD.out.size ?_; intro v' w2 hown hgrow hnil hat'; have HR2 := Lib.hid (show World.ownsRow w2 w.heap.size 3 1 v' n (fs.map encI) by simpa using hown); have HB2 := Lib.hid (show Below w.heap.size w w2 from HBD.out.grown hgrow HBD.out.size (fun k e => by cases e)); obtain ⟨g7, cap7, hv7, hc7⟩ := own_slice HR2.out (by omega); subst hv7; obtain ⟨cg, cf⟩ := own_cell HR2.out a hb; clear hown hgrow hnil hat')
  go_ret2
  refine ⟨_, rfl, ?_, ?_⟩
  · rw [HFIN.out]; exact own_put HR2.out a 0
  · exact HB2.out.grown (one_set w2 g7 a (.int .i64 0)) HB2.out.size (fun k e => by cases e; exact (HR2.out.lt g7 rfl).1)
end Go.Proofs.Ytlamppplnojpbaa
namespace Go.Proofs.Ytlamppplnojpbaa
open Go.RowKit Go.Shelf
attribute [local go_sem] Oper.semAt_some
set_option maxRecDepth 100000 in
set_option maxHeartbeats 1000000 in
/-- one jug is poured into another one -/
theorem rStep_pour (ss fs : List Int) (v u : Value) (a b : Nat) (w : World) (hv : SlI w v ss) (hu : SlI w u fs) (n : Nat) (hsl : ss.length = n) (hl : fs.length = n) (ha : a < n) (hb : b < n) (hab : a ≠ b) (hn : n ≤ 1000) (hfa : 0 ≤ fs.getD a 0 ∧ fs.getD a 0 ≤ 1000) (hfb : 0 ≤ fs.getD b 0 ∧ fs.getD b 0 ≤ 1000) (hsb : 0 ≤ ss.getD b 0 ∧ ss.getD b 0 ≤ 1000) :
    Calls Try.prog 61 #[v, u, .agg #[.int .i64 (a : Int), .int .i64 (b : Int)]] w fun e w' => ∃ s, e = .returned (.tuple #[s, .bool true]) ∧ w'.ownsRow w.heap.size 3 1 s n ((afterF ss fs (a : Int) (b : Int)).map encI) ∧ Below w.heap.size w w' := by
  obtain ⟨i0, hi, hz0, hz1, hz2⟩ := info_parts info3
  obtain ⟨vb, vo, vc, rfl, hvc, hvb, hvi⟩ := sli_cells hv (fun e => by rw [e, List.length_nil] at hsl; omega)
  obtain ⟨ub, uo, uc, rfl, huc, hub, hui⟩ := sli_cells hu (fun e => by rw [e, List.length_nil] at hl; omega)
  have ba := (Below.refl w.heap.size w).alloc (Nat.le_refl _) (.cells #[.int .i64 (a : Int), .int .i64 (b : Int)] 48)
  have r := Row.new w 48 [.int .i64 (a : Int), .int .i64 (b : Int)]
  have c0 : (w.alloc (.cells #[.int .i64 (a : Int), .int .i64 (b : Int)] 48)).cell? ⟨w.heap.size, 0, none⟩ = some (.int .i64 (a : Int)) := r.cell 0
  have c1 : (w.alloc (.cells #[.int .i64 (a : Int), .int .i64 (b : Int)] 48)).cell? ⟨w.heap.size, 1, none⟩ = some (.int .i64 (b : Int)) := r.cell 1
  have BA := Lib.hid ba
  have SZ := Lib.hid (size_al w (.cells #[.int .i64 (a : Int), .int .i64 (b : Int)] 48))
  have HVI := Lib.hid hvi
  have HUI := Lib.hid hui
  have HB0 := Lib.hid (And.intro hvb hub)
  have d1 : decide ((a : Int) < -1) = false := decide_eq_false (by omega)
  have d2 : decide ((a : Int) ≥ (n : Int)) = false := decide_eq_false (by omega)
  have d3 : decide ((b : Int) < -1) = false := decide_eq_false (by omega)
  have d4 : decide ((b : Int) ≥ (n : Int)) = false := decide_eq_false (by omega)
  have d5 : ((a : Int) == (b : Int)) = false := by rw [beq_eq_false_iff_ne]; omega
  have d6 : decide ((a : Int) = (b : Int)) = false := decide_eq_false (by omega)
  have d7 : ((a : Int) == (-1 : Int)) = false := by rw [beq_eq_false_iff_ne]; omega
  have d8 : decide ((a : Int) = (-1 : Int)) = false := decide_eq_false (by omega)
  have d9 : ((b : Int) == (-1 : Int)) = false := by rw [beq_eq_false_iff_ne]; omega
  have d10 : decide ((b : Int) = (-1 : Int)) = false := decide_eq_false (by omega)
  have d11 : decide (a = b) = false := decide_eq_false hab
  have d12 : (a == b) = false := by rw [beq_eq_false_iff_ne]; exact hab
  have hfin : afterF ss fs (a : Int) (b : Int) = (fs.set a (fs.getD a 0 - min (fs.getD a 0) (ss.getD b 0 - fs.getD b 0))).set b (fs.getD b 0 + min (fs.getD a 0) (ss.getD b 0 - fs.getD b 0)) := by
    unfold afterF; rw [if_neg (by omega), if_neg (by omega), Int.toNat_natCast, Int.toNat_natCast]
  have HFIN := Lib.hid hfin
  have HCB := Lib.hid (fun (W : World) (hb' : Below w.heap.size w W) => show W.cell? ⟨vb, vo + b, none⟩ = some (.int .i64 (ss.getD b 0)) ∧ W.cell? ⟨ub, uo + a, none⟩ = some (.int .i64 (fs.getD a 0)) ∧ W.cell? ⟨ub, uo + b, none⟩ = some (.int .i64 (fs.getD b 0)) by
    rw [getD_lt (show b < ss.length by omega), getD_lt (show a < fs.length by omega), getD_lt (show b < fs.length by omega)]
    exact ⟨(hvi.below hb' hvb).at_ b (by omega), (hui.below hb' hub).at_ a (by omega), (hui.below hb' hub).at_ b (by omega)⟩)
  clear hfin hab
  generalize hza : fs.getD a 0 = fa at *
  generalize hzb : fs.getD b 0 = fb at *
  generalize ss.getD b 0 = sb at *
  have HZ := Lib.hid (And.intro hza hzb)
  clear hza hzb
  have w1' : IntKind.i64.wrap (sb - fb) = sb - fb := i64_of _ (by omega) (by omega)
  clear ba r hvi hui hvb hub
  have HSN := Lib.hid hsl
  have HFN := Lib.hid hl
  rw [hsl, hl]
  rw [hsl] at hvc
  rw [hl] at huc
  clear hl hsl
  go_enter Try.func61, Try.ntmps61
  go_wp2_with fail
  go_quiet (fail)
  have HBD := Lib.hid (below_drewN BA.out nq)
  clear c0 c1
  go_wp2_with (at_builtin; refine wpList_append_own_at _ rfl _ _ 22 rfl w.heap.size 3 i0 (.int .i64 0) 1 8 Try.underlying22 hi hz0 hz1 hz2 rfl (by decide) (.slice none 0 0) 0 [] rfl (World.ownsRow_nil _ _ _ _) ⟨ub, uo, none⟩ n uc (fs.map encI) rfl (by rw [List.length_map, HFN.out]; omega) (HUI.out.below HBD.out HB0.out.2).cells (fun x hx => by obtain ⟨y, _, rfl⟩ := List.mem_map.1 hx; simp [Value.oneCell', encI]) (by unfold maxLen; omega) (by omega) HBD.out.size ?_; intro v' w2 hown hgrow hnil hat'; have HR2 := Lib.hid (show World.ownsRow w2 w.heap.size 3 1 v' n (fs.map encI) by simpa using hown); have HB2 := Lib.hid (show Below w.heap.size w w2 from HBD.out.grown hgrow HBD.out.size (fun k e => by cases e)); obtain ⟨g7, cap7, hv7, hc7⟩ := own_slice HR2.out (by omega); subst hv7; obtain ⟨cb1, cb2, cb3⟩ := HCB.out w2 HB2.out; obtain ⟨cg, cf⟩ := own_cell HR2.out b hb; obtain ⟨cg2, cf2⟩ := own_cell HR2.out a ha; clear hown hgrow hnil hat')
  clear cg cf cg2 cf2
  rcases Int.lt_or_le (sb - fb) fa with hm | hm
  · go_quiet (fail)
    all_goals first
      | (exfalso; omega)
      | skip
    have hd2 := below_drewN HB2.out nq
    have hr2 := own_grow HR2.out (below_drewN (Below.refl w2.heap.size w2) nq)
    clear cb1 cb2 cb3
    generalize w2.drewN nq = w3 at *
    have HD2 := Lib.hid hd2
    have e1 : IntKind.i64.wrap (fa - (sb - fb)) = fa - (sb - fb) := by rw [i64_of _ (by omega) (by omega)] <;> omega
    have e2 : IntKind.i64.wrap (fb + (sb - fb)) = fb + (sb - fb) := by rw [i64_of _ (by omega) (by omega)]
    obtain ⟨ca1, ca2, ca3⟩ := HCB.out w3 hd2
    obtain ⟨cg, cf⟩ := own_cell hr2 a ha
    have hr3 := own_put hr2 a (fa - (sb - fb))
    obtain ⟨cg2, cf2⟩ := own_cell hr3 b hb
    have hd3 := hd2.grown (one_set w3 g7 a (.int .i64 (fa - (sb - fb)))) hd2.size (fun k e => by cases e; exact (hr2.lt g7 rfl).1)
    obtain ⟨cb1, cb2, cb3⟩ := HCB.out _ hd3
    have HR3 := Lib.hid (own_put hr3 b (fb + (sb - fb)))
    have HD3 := Lib.hid hd3
    have HL := Lib.hid (hr2.lt g7 rfl).1
    have HFN2 := Lib.hid (show afterF ss fs (a : Int) (b : Int) = (fs.set a (fa - (sb - fb))).set b (fb + (sb - fb)) by rw [HFIN.out]; congr 1 <;> (try congr 1) <;> omega)
    clear hr2 hr3 hd2 hd3
    go_wp2_with fail
    go_ret2
    refine ⟨_, rfl, ?_, ?_⟩
    · rw [HFN2.out]; exact HR3.out
    · exact HD3.out.grown (one_set _ g7 b (.int .i64 (fb + (sb - fb)))) HD3.out.size (fun k e => by cases e; exact HL.out)
  · go_quiet (fail)
    all_goals first
      | (exfalso; omega)
      | skip
    have hd2 := below_drewN HB2.out nq
    have hr2 := own_grow HR2.out (below_drewN (Below.refl w2.heap.size w2) nq)
    clear cb1 cb2 cb3
    generalize w2.drewN nq = w3 at *
    have HD2 := Lib.hid hd2
    have e1 : IntKind.i64.wrap (fa - fa) = 0 := by rw [i64_of _ (by omega) (by omega)] <;> omega
    have e2 : IntKind.i64.wrap (fb + fa) = fb + fa := by rw [i64_of _ (by omega) (by omega)]
    obtain ⟨ca1, ca2, ca3⟩ := HCB.out w3 hd2
    obtain ⟨cg, cf⟩ := own_cell hr2 a ha
    have hr3 := own_put hr2 a (0)
    obtain ⟨cg2, cf2⟩ := own_cell hr3 b hb
    have hd3 := hd2.grown (one_set w3 g7 a (.int .i64 (0))) hd2.size (fun k e => by cases e; exact (hr2.lt g7 rfl).1)
    obtain ⟨cb1, cb2, cb3⟩ := HCB.out _ hd3
    have HR3 := Lib.hid (own_put hr3 b (fb + fa))
    have HD3 := Lib.hid hd3
    have HL := Lib.hid (hr2.lt g7 rfl).1
    have HFN2 := Lib.hid (show afterF ss fs (a : Int) (b : Int) = (fs.set a (0)).set b (fb + fa) by rw [HFIN.out]; congr 1 <;> (try congr 1) <;> omega)
    clear hr2 hr3 hd2 hd3
    go_wp2_with fail
    go_ret2
    refine ⟨_, rfl, ?_, ?_⟩
    · rw [HFN2.out]; exact HR3.out
    · exact HD3.out.grown (one_set _ g7 b (.int .i64 (fb + fa))) HD3.out.size (fun k e => by cases e; exact HL.out)
theorem rStep_any (ss fs : List Int) (v u : Value) (a b : Int) (w : World) (hv : SlI w v ss) (hu : SlI w u fs) (hj : jugsB ss = true) (hf : fitsB ss fs = true) (ha : -1 ≤ a ∧ a < (ss.length : Int)) (hb : -1 ≤ b ∧ b < (ss.length : Int)) (hab : a ≠ b) :
    Calls Try.prog 61 #[v, u, .agg #[.int .i64 a, .int .i64 b]] w fun e w' => ∃ s, e = .returned (.tuple #[s, .bool true]) ∧ w'.ownsRow w.heap.size 3 1 s (afterF ss fs a b).length ((afterF ss fs a b).map encI) ∧ Below w.heap.size w w' := by
  unfold jugsB at hj
  simp only [Bool.and_eq_true, decide_eq_true_eq, List.all_eq_true] at hj
  unfold fitsB at hf
  simp only [Bool.and_eq_true, decide_eq_true_eq, List.all_eq_true] at hf
  have hl : (afterF ss fs a b).length = ss.length := by
    unfold afterF; split
    · rw [List.length_set]; exact hf.1
    · split
      · rw [List.length_set]; exact hf.1
      · rw [List.length_set, List.length_set]; exact hf.1
  rw [hl]
  have hbd : ∀ i, i < ss.length → 0 ≤ fs.getD i 0 ∧ fs.getD i 0 ≤ 1000 ∧ 0 ≤ ss.getD i 0 ∧ ss.getD i 0 ≤ 1000 := fun i hi => by
    have h1 := hf.2 i (List.mem_range.2 (by omega))
    have h2 := hj.2 ss[i] (List.getElem_mem hi)
    unfold sizeB at h2
    simp only [Bool.and_eq_true, decide_eq_true_eq] at h2
    rw [getD_lt hi] at h1 ⊢
    omega
  by_cases h1 : a = -1
  · subst h1
    obtain ⟨j, rfl⟩ : ∃ j : Nat, b = (j : Int) := ⟨b.toNat, by omega⟩
    exact rStep_sea ss fs v u j w hv hu ss.length rfl hf.1 (by omega) (by omega)
  · obtain ⟨i, rfl⟩ : ∃ i : Nat, a = (i : Int) := ⟨a.toNat, by omega⟩
    by_cases h2 : b = -1
    · subst h2
      exact rStep_out ss fs v u i w hv hu ss.length rfl hf.1 (by omega) (by omega)
    · obtain ⟨j, rfl⟩ : ∃ j : Nat, b = (j : Int) := ⟨b.toNat, by omega⟩
      have hi := hbd i (by omega)
      have hj' := hbd j (by omega)
      exact rStep_pour ss fs v u i j w hv hu ss.length rfl hf.1 (by omega) (by omega) (by omega) (by omega) ⟨hi.1, hi.2.1⟩ ⟨hj'.1, hj'.2.1⟩ ⟨hj'.2.2.1, hj'.2.2.2⟩
set_option maxHeartbeats 1000000 in
theorem equal_any (xs ys : List Int) (g h c d : Nat) (w : World) (hx : IntsAt w g 0 xs) (hy : IntsAt w h 0 ys) (hl : xs.length = ys.length) (h1 : xs.length ≤ 1000) :
    Calls Try.prog 62 #[.slice (some ⟨g, 0, none⟩) xs.length c, .slice (some ⟨h, 0, none⟩) ys.length d] w fun e w' => e = .returned (.bool (decide (xs = ys))) ∧ Below w.heap.size w w' := by
  have d1 : ((xs.length : Int) != (ys.length : Int)) = false := by simp; omega
  have HX := Lib.hid hx
  have HY := Lib.hid hy
  have HL := Lib.hid hl
  obtain ⟨E, hE⟩ : ∃ E, decide (xs = ys) = E := ⟨_, rfl⟩
  rw [hE]
  have HE := Lib.hid hE
  clear hx hy hl hE
  go_enter Try.func62, Try.ntmps62
  go_wp2_with fail
  go_loopw [5] (fun i wr => ∃ k : Nat, k ≤ xs.length ∧ i = .int .i64 (k : Int) ∧ Hid (∃ n, wr = w.drewN n) ∧ Hid (xs.take k = ys.take k)) (fun i _ => xs.length - (intOf i).toNat)
  case atStart => exact ⟨0, by omega, rfl, Lib.hid ⟨0, rfl⟩, Lib.hid rfl⟩
  case round =>
    obtain ⟨k, hk, rfl, HN, HK⟩ := hrel
    obtain ⟨n, hn⟩ := HN.out
    have HW := Lib.hid (show Below w.heap.size w wr by rw [hn]; exact below_drewN (Below.refl _ _) _)
    have HX1 := Lib.hid (show IntsAt wr g 0 xs by rw [hn]; exact HX.out.drewN n)
    have HY1 := Lib.hid (show IntsAt wr h 0 ys by rw [hn]; exact HY.out.drewN n)
    have HNN := Lib.hid hn
    clear hn
    by_cases hlt : k < xs.length
    · have hlt2 : k < ys.length := by have := HL.out; omega
      have hd : decide ((k : Int) < (xs.length : Int)) = true := decide_eq_true (by omega)
      have c1 := HX1.out.at_ k hlt
      have c2 := HY1.out.at_ k hlt2
      rw [Nat.zero_add] at c1 c2
      have hs1 : xs.take (k + 1) = xs.take k ++ [xs[k]] := List.take_succ_eq_append_getElem hlt
      have hs2 : ys.take (k + 1) = ys.take k ++ [ys[k]] := List.take_succ_eq_append_getElem hlt2
      have hne : xs[k] ≠ ys[k] → E = false := fun hne => by
        rw [← HE.out]; refine decide_eq_false fun e => hne ?_
        subst e; rfl
      have S1 := Lib.hid hs1
      have S2 := Lib.hid hs2
      have HNE := Lib.hid hne
      clear hs1 hs2 hne
      generalize xs[k] = a at *
      generalize ys[k] = b at *
      go_wp2_with fail
      go_quiet (fail)
      by_cases hab : a = b
      · have dd : (a != b) = false := by simp [hab]
        subst hab
        clear HNE
        go_wp2_with fail
        go_roundw
        case rel => exact ⟨k + 1, by omega, rfl, Lib.hid ⟨_, by rw [HNN.out, drewN_drewN]⟩, Lib.hid (by rw [S1.out, S2.out, HK.out])⟩
        case measure => simp [intOf]; omega
      · have dd : (a != b) = true := by simp [hab]
        have HF := Lib.hid (HNE.out hab)
        clear hab HNE
        go_wp2_with fail
        go_ret
        exact ⟨ret_bool HF.out.symm, below_drewN HW.out _⟩
    · have hd : decide ((k : Int) < (xs.length : Int)) = false := decide_eq_false (by omega)
      have hfin : E = true := by
        rw [← HE.out]; refine decide_eq_true ?_
        have := HK.out
        rw [List.take_of_length_le (by omega), List.take_of_length_le (by have := HL.out; omega)] at this
        exact this
      have HF := Lib.hid hfin
      clear hfin
      go_wp2_with fail
      go_ret
      exact ⟨ret_bool HF.out.symm, HW.out⟩
end Go.Proofs.Ytlamppplnojpbaa
namespace Go.Proofs.Ytlamppplnojpbaa
open Go.RowKit Go.Shelf
attribute [local go_sem] Oper.semAt_some
/-- which steps the reference keeps -/
def keepB (ss fs : List Int) (cl : Bool) (x : Int × Int) : Bool := !(cl && (decide (x.1 = -1) || decide (x.2 = -1))) && (!decide (x.1 = x.2) && !decide (fs = afterF ss fs x.1 x.2))
def rowA (m a : Nat) : List (Int × Int) := (List.range m).map fun b : Nat => (-1 + (a : Int), -1 + (b : Int))
def allA (m a b : Nat) : List (Int × Int) := (List.range a).flatMap (rowA m) ++ (rowA b a)
theorem allA_next (m a : Nat) : allA m (a + 1) 0 = allA m a m := by
  unfold allA
  rw [List.range_succ, List.flatMap_append]
  simp [rowA]
theorem allA_snoc (m a b : Nat) : allA m a (b + 1) = allA m a b ++ [(-1 + (a : Int), -1 + (b : Int))] := by
  unfold allA rowA
  rw [List.range_succ, List.map_append, List.append_assoc]; rfl
def refL (ss fs : List Int) (cl : Bool) (m a b : Nat) : List (Int × Int) := (allA m a b).filter (keepB ss fs cl)
theorem refL_snoc (ss fs : List Int) (cl : Bool) (m a b : Nat) : refL ss fs cl m a (b + 1) = refL ss fs cl m a b ++ (if keepB ss fs cl (-1 + (a : Int), -1 + (b : Int)) = true then [(-1 + (a : Int), -1 + (b : Int))] else []) := by
  unfold refL
  rw [allA_snoc, List.filter_append]
  congr 1
  by_cases h : keepB ss fs cl (-1 + (a : Int), -1 + (b : Int)) = true
  · rw [if_pos h]; simp [h]
  · rw [if_neg h]; simp [h]
theorem allA_len (m a b : Nat) (ha : a ≤ m) (hb : b ≤ m) : (allA m a b).length ≤ m * m + m := by
  unfold allA
  rw [List.length_append]
  have h1 := flat_len (rowA m) m (fun a => by simp [rowA]) a
  have h2 : (rowA b a).length = b := by simp [rowA]
  have h3 : a * m ≤ m * m := Nat.mul_le_mul_right m ha
  omega
theorem refL_len (ss fs : List Int) (cl : Bool) (m a b : Nat) (ha : a ≤ m) (hb : b ≤ m) (hm : m ≤ 5) : (refL ss fs cl m a b).length ≤ 30 := by
  have h1 := allA_len m a b ha hb
  have h2 : m * m ≤ 5 * 5 := Nat.mul_le_mul hm hm
  have h3 := List.length_filter_le (keepB ss fs cl) (allA m a b)
  unfold refL; omega
theorem flat_snoc (p : Pt) : ∀ ps : List Pt, flat (ps ++ [p]) = flat ps ++ [.int .i64 p.1, .int .i64 p.2]
  | [] => rfl
  | q :: ps => by simp [flat, flat_snoc p ps]
theorem cells_two_new (w : World) (x y : Value) (t : TypeId) : ∀ j u, [x, y][j]? = some u → (w.alloc (.cells #[x, y] t)).cell? ((⟨w.heap.size, 0, none⟩ : Addr).add j) = some u := by
  intro j u hj
  rw [Go.WideShapes.add_plain, Nat.zero_add, Row.cell (Row.new w t [x, y])]; exact hj
theorem own_belowP {W0 W w2 : World} {o : Obj} {v : Value} {ps : List Pt} (h : OwnP W W0.heap.size v ps) (hb : Below W0.heap.size W0 W) (hg : (W.alloc o).grownBy w2 v.ownBlock) : Below W0.heap.size W0 w2 :=
  (Below.al hb (Nat.le_refl _) o).grown hg (Nat.le_trans hb.size (by simp)) (fun r e => (World.ownsRow.lt h r e).1)
set_option maxRecDepth 100000 in
set_option maxHeartbeats 2000000 in
theorem refSteps_any (ss fs : List Int) (v : Value) (g c : Nat) (cl : Bool) (w : World) (hv : SlI w v ss) (hg : g < w.heap.size) (hu : IntsAt w g 0 fs) (hc : fs.length ≤ c) (hj : jugsB ss = true) (hf : fitsB ss fs = true) :
    Calls Try.prog 33 #[v, .slice (some ⟨g, 0, none⟩) fs.length c, .bool cl] w fun e w' => ∃ s, e = .returned s ∧ OwnP w' w.heap.size s (refL ss fs cl (ss.length + 1) (ss.length + 1) 0) ∧ Below w.heap.size w w' := by
  obtain ⟨i0, hi, hz0, hz1, hz2⟩ := info_parts info48
  have hn : 1 ≤ ss.length ∧ ss.length ≤ 4 := by
    unfold jugsB at hj
    simp only [Bool.and_eq_true, decide_eq_true_eq] at hj
    exact hj.1
  have hfl : fs.length = ss.length := by
    unfold fitsB at hf
    simp only [Bool.and_eq_true, decide_eq_true_eq] at hf
    exact hf.1
  have hus : SlI w (.slice (some ⟨g, 0, none⟩) fs.length c) fs := ⟨_, c, rfl, hc, .inr ⟨g, 0, rfl, hg, hu⟩⟩
  have HV := Lib.hid hv
  have HU := Lib.hid hu
  have HG := Lib.hid hg
  have HUS := Lib.hid hus
  have HST := Lib.hid (fun (W : World) (hb : Below w.heap.size w W) (a b : Int) (ha : -1 ≤ a ∧ a < (ss.length : Int)) (hb' : -1 ≤ b ∧ b < (ss.length : Int)) (hab : a ≠ b) => rStep_any ss fs v _ a b W (hv.grow hb) (hus.grow hb) hj hf ha hb' hab)
  have HSN := Lib.hid (fun (W : World) (hb : Below w.heap.size w W) (a : Int) (ha : -1 ≤ a ∧ a < (ss.length : Int)) => rStep_none ss fs v _ a W (hv.grow hb) (hus.grow hb) ha (by omega))
  obtain ⟨va, vc, rfl, _⟩ := hv
  obtain ⟨n, hnn⟩ : ∃ n, ss.length = n := ⟨_, rfl⟩
  have HFL := Lib.hid hfl
  have HNN := Lib.hid hnn
  rw [hnn] at hn HST HSN ⊢
  clear hj hf hus hu hg hfl hnn
  go_enter Try.func33, Try.ntmps33
  go_wp2_with fail
  go_loopw [7, 8] (fun lv av wr => ∃ i : Nat, i ≤ n + 1 ∧ av = .int .i64 (-1 + (i : Int)) ∧ Hid (OwnP wr w.heap.size lv (refL ss fs cl (n + 1) i 0) ∧ Below w.heap.size w wr)) (fun _ av _ => ((n : Int) - intOf av).toNat)
  case atStart => exact ⟨0, by omega, by simp, Lib.hid ⟨World.ownsRow_nil _ _ _ _, Below.refl _ _⟩⟩
  case round =>
    obtain ⟨i, hi', rfl, HO⟩ := hrel
    have iw : IntKind.i64.wrap (-1 + (i : Int) + 1) = -1 + ((i + 1 : Nat) : Int) := by rw [i64_of _ (by omega) (by omega)]; omega
    by_cases hin : i < n + 1
    · have hd1 : decide (-1 + (i : Int) < (n : Int)) = true := decide_eq_true (by omega)
      go_wp2_with fail
      go_loopw [7, 9] (fun lv bv wx => ∃ j : Nat, j ≤ n + 1 ∧ bv = .int .i64 (-1 + (j : Int)) ∧ Hid (OwnP wx w.heap.size lv (refL ss fs cl (n + 1) i j) ∧ Below w.heap.size w wx)) (fun _ bv _ => ((n : Int) - intOf bv).toNat)
      case atStart => exact ⟨0, by omega, by simp, HO⟩
      case round =>
        clear HO
        obtain ⟨j, hj', rfl, HO⟩ := hrel
        have jw : IntKind.i64.wrap (-1 + (j : Int) + 1) = -1 + ((j + 1 : Nat) : Int) := by rw [i64_of _ (by omega) (by omega)]; omega
        by_cases hjn : j < n + 1
        · have hd2 : decide (-1 + (j : Int) < (n : Int)) = true := decide_eq_true (by omega)
          have hsn := refL_snoc ss fs cl (n + 1) i j
          have hll := refL_len ss fs cl (n + 1) i j (by omega) (by omega) (by omega)
          obtain ⟨cA, hcA⟩ : ∃ cA, decide (-1 + (i : Int) = -1) = cA := ⟨_, rfl⟩
          obtain ⟨cB, hcB⟩ : ∃ cB, decide (-1 + (j : Int) = -1) = cB := ⟨_, rfl⟩
          obtain ⟨cE, hcE⟩ : ∃ cE, decide (-1 + (i : Int) = -1 + (j : Int)) = cE := ⟨_, rfl⟩
          have hkb : keepB ss fs cl (-1 + (i : Int), -1 + (j : Int)) = (!(cl && (cA || cB)) && (!cE && !decide (fs = afterF ss fs (-1 + (i : Int)) (-1 + (j : Int))))) := by
            unfold keepB; rw [hcA, hcB, hcE]
          have HSN2 := Lib.hid hsn
          have hkb2 := hkb
          have HCE := Lib.hid hcE
          have HFN := Lib.hid (HFL.out.trans HNN.out)
          have HAL := Lib.hid (show (afterF ss fs (-1 + (i : Int)) (-1 + (j : Int))).length = n by
            unfold afterF
            split
            · rw [List.length_set]; exact HFN.out
            · split
              · rw [List.length_set]; exact HFN.out
              · rw [List.length_set, List.length_set]; exact HFN.out)
          have hcA2 : ((-1 + (i : Int)) == -1) = cA := hcA
          have hcB2 : ((-1 + (j : Int)) == -1) = cB := hcB
          have HLL := Lib.hid hll
          clear hsn hkb hcE hll
          by_cases hcl : (cl && (cA || cB)) = true
          · have hskip : refL ss fs cl (n + 1) i (j + 1) = refL ss fs cl (n + 1) i j := by
              rw [HSN2.out, hkb2, hcl]; simp
            have HSK := Lib.hid hskip
            clear hskip hkb2
            cases cl <;> cases cA <;> cases cB <;> first | (exfalso; revert hcl; decide) | skip
            all_goals clear hcl
            all_goals go_wp2_with fail
            all_goals exact ⟨⟨j + 1, by omega, by simp, by rw [HSK.out]; exact HO⟩, by simp [intOf]; omega⟩
          · have hcl2 : (cl && (cA || cB)) = false := by simpa using hcl
            rw [hcl2] at hkb2
            have HKB := Lib.hid hkb2
            clear hkb2 hcl2
            cases cE with
            | true =>
              obtain rfl : i = j := by have := of_decide_eq_true HCE.out; omega
              have hskip : refL ss fs cl (n + 1) i (i + 1) = refL ss fs cl (n + 1) i i := by
                rw [HSN2.out, HKB.out]; simp
              have HSK := Lib.hid hskip
              clear hskip
              cases cl with
              | false =>
                clear hcl
                go_wp2_with fail
                refine (HSN.out wr HO.out.2 (-1 + (i : Int)) (by omega)).mono ?_
                rintro e w1 ⟨rfl, hb1⟩
                have HO1 := Lib.hid (show OwnP w1 w.heap.size u7 (refL ss fs false (n + 1) i i) ∧ Below w.heap.size w w1 from ⟨own_grow HO.out.1 hb1, Below.andThen HO.out.2 hb1 (Nat.le_refl _)⟩)
                clear hb1
                go_wp2_with fail
                exact ⟨⟨i + 1, by omega, by simp, by rw [HSK.out]; exact HO1⟩, by simp [intOf]; omega⟩
              | true =>
                obtain ⟨rfl, rfl⟩ : cA = false ∧ cB = false := by revert hcl; cases cA <;> cases cB <;> decide
                clear hcl
                go_wp2_with fail
                refine (HSN.out wr HO.out.2 (-1 + (i : Int)) (by omega)).mono ?_
                rintro e w1 ⟨rfl, hb1⟩
                have HO1 := Lib.hid (show OwnP w1 w.heap.size u7 (refL ss fs true (n + 1) i i) ∧ Below w.heap.size w w1 from ⟨own_grow HO.out.1 hb1, Below.andThen HO.out.2 hb1 (Nat.le_refl _)⟩)
                clear hb1
                go_wp2_with fail
                exact ⟨⟨i + 1, by omega, by simp, by rw [HSK.out]; exact HO1⟩, by simp [intOf]; omega⟩
            | false =>
              cases cl with
              | false =>
                clear hcl
                go_wp2_with fail
                refine (HST.out wr HO.out.2 (-1 + (i : Int)) (-1 + (j : Int)) (by omega) (by omega) (of_decide_eq_false HCE.out)).mono ?_
                rintro e w1 ⟨s, rfl, hs, hb1⟩
                have ho1 : OwnP w1 w.heap.size u7 (refL ss fs false (n + 1) i j) ∧ Below w.heap.size w w1 := ⟨own_grow HO.out.1 hb1, Below.andThen HO.out.2 hb1 (Nat.le_refl _)⟩
                obtain ⟨gs, cs, rfl, _, hsi⟩ := own_ints hs (fun h => by have h1 := HAL.out; rw [h, List.length_nil] at h1; omega)
                have heq := equal_any fs (afterF ss fs (-1 + (i : Int)) (-1 + (j : Int))) g gs c cs w1 (HU.out.below ho1.2 HG.out) hsi (HAL.out.trans HFN.out.symm).symm (by rw [HFN.out]; omega)
                have HEQ := Lib.hid heq
                have HO1 := Lib.hid ho1
                clear ho1 hs hb1 hsi heq
                go_wp2_with fail
                refine HEQ.out.mono ?_
                rintro e w2 ⟨rfl, hb2⟩
                have HO2 := Lib.hid (show OwnP w2 w.heap.size u7 (refL ss fs false (n + 1) i j) ∧ Below w.heap.size w w2 from ⟨own_grow HO1.out.1 hb2, Below.andThen HO1.out.2 hb2 (Nat.le_refl _)⟩)
                clear hb2
                obtain ⟨F, hF⟩ : ∃ F, decide (fs = afterF ss fs (-1 + (i : Int)) (-1 + (j : Int))) = F := ⟨_, rfl⟩
                rw [hF]
                have hnx := HSN2.out
                rw [HKB.out, hF] at hnx
                have HNX := Lib.hid hnx
                clear hF hnx
                clear HEQ
                cases F with
                | true =>
                  go_wp2_with fail
                  exact ⟨⟨j + 1, by omega, by simp, by rw [HNX.out]; exact Lib.hid ⟨by simpa using HO2.out.1, HO2.out.2⟩⟩, by simp [intOf]; omega⟩
                | false =>
                  generalize afterF ss fs (-1 + (i : Int)) (-1 + (j : Int)) = AF at *
                  go_wp2_with (at_builtin; refine wpList_append_own_at _ rfl _ _ 27 rfl w.heap.size 48 i0 (.agg #[.int .i64 0, .int .i64 0]) 2 16 Try.underlying27 hi hz0 hz1 hz2 rfl (by decide) u7 (refL ss fs false (n + 1) i j).length (flat (refL ss fs false (n + 1) i j)) rfl (HO2.out.1.alloc _) ⟨w2.heap.size, 0, none⟩ 1 1 [.int .i64 (-1 + (i : Int)), .int .i64 (-1 + (j : Int))] rfl rfl (cells_two_new _ _ _ _) (by simp [Value.oneCell']) (by unfold maxLen; have := HLL.out; omega) (by have := HLL.out; omega) (Nat.le_trans HO2.out.2.size (by simp)) ?_; intro v' w3 hown' hgrow hnil hat'; have HR3 := Lib.hid (show OwnP w3 w.heap.size v' (refL ss fs false (n + 1) i (j + 1)) from by rw [HNX.out]; simp only [Bool.not_false, Bool.and_self, if_true]; unfold OwnP; rw [flat_snoc, List.length_append, List.length_singleton]; exact hown'); have HB3 := Lib.hid (own_belowP HO2.out.1 HO2.out.2 hgrow); clear hown' hgrow hnil hat')
                  exact ⟨⟨j + 1, by omega, by simp, Lib.hid ⟨HR3.out, HB3.out⟩⟩, by simp [intOf]; omega⟩
              | true =>
                obtain ⟨rfl, rfl⟩ : cA = false ∧ cB = false := by revert hcl; cases cA <;> cases cB <;> decide
                clear hcl
                go_wp2_with fail
                refine (HST.out wr HO.out.2 (-1 + (i : Int)) (-1 + (j : Int)) (by omega) (by omega) (of_decide_eq_false HCE.out)).mono ?_
                rintro e w1 ⟨s, rfl, hs, hb1⟩
                have ho1 : OwnP w1 w.heap.size u7 (refL ss fs true (n + 1) i j) ∧ Below w.heap.size w w1 := ⟨own_grow HO.out.1 hb1, Below.andThen HO.out.2 hb1 (Nat.le_refl _)⟩
                obtain ⟨gs, cs, rfl, _, hsi⟩ := own_ints hs (fun h => by have h1 := HAL.out; rw [h, List.length_nil] at h1; omega)
                have heq := equal_any fs (afterF ss fs (-1 + (i : Int)) (-1 + (j : Int))) g gs c cs w1 (HU.out.below ho1.2 HG.out) hsi (HAL.out.trans HFN.out.symm).symm (by rw [HFN.out]; omega)
                have HEQ := Lib.hid heq
                have HO1 := Lib.hid ho1
                clear ho1 hs hb1 hsi heq
                go_wp2_with fail
                refine HEQ.out.mono ?_
                rintro e w2 ⟨rfl, hb2⟩
                have HO2 := Lib.hid (show OwnP w2 w.heap.size u7 (refL ss fs true (n + 1) i j) ∧ Below w.heap.size w w2 from ⟨own_grow HO1.out.1 hb2, Below.andThen HO1.out.2 hb2 (Nat.le_refl _)⟩)
                clear hb2
                obtain ⟨F, hF⟩ : ∃ F, decide (fs = afterF ss fs (-1 + (i : Int)) (-1 + (j : Int))) = F := ⟨_, rfl⟩
                rw [hF]
                have hnx := HSN2.out
                rw [HKB.out, hF] at hnx
                have HNX := Lib.hid hnx
                clear hF hnx
                clear HEQ
                cases F with
                | true =>
                  go_wp2_with fail
                  exact ⟨⟨j + 1, by omega, by simp, by rw [HNX.out]; exact Lib.hid ⟨by simpa using HO2.out.1, HO2.out.2⟩⟩, by simp [intOf]; omega⟩
                | false =>
                  generalize afterF ss fs (-1 + (i : Int)) (-1 + (j : Int)) = AF at *
                  go_wp2_with (at_builtin; refine wpList_append_own_at _ rfl _ _ 27 rfl w.heap.size 48 i0 (.agg #[.int .i64 0, .int .i64 0]) 2 16 Try.underlying27 hi hz0 hz1 hz2 rfl (by decide) u7 (refL ss fs true (n + 1) i j).length (flat (refL ss fs true (n + 1) i j)) rfl (HO2.out.1.alloc _) ⟨w2.heap.size, 0, none⟩ 1 1 [.int .i64 (-1 + (i : Int)), .int .i64 (-1 + (j : Int))] rfl rfl (cells_two_new _ _ _ _) (by simp [Value.oneCell']) (by unfold maxLen; have := HLL.out; omega) (by have := HLL.out; omega) (Nat.le_trans HO2.out.2.size (by simp)) ?_; intro v' w3 hown' hgrow hnil hat'; have HR3 := Lib.hid (show OwnP w3 w.heap.size v' (refL ss fs true (n + 1) i (j + 1)) from by rw [HNX.out]; simp only [Bool.not_false, Bool.and_self, if_true]; unfold OwnP; rw [flat_snoc, List.length_append, List.length_singleton]; exact hown'); have HB3 := Lib.hid (own_belowP HO2.out.1 HO2.out.2 hgrow); clear hown' hgrow hnil hat')
                  exact ⟨⟨j + 1, by omega, by simp, Lib.hid ⟨HR3.out, HB3.out⟩⟩, by simp [intOf]; omega⟩
        · have hd2 : decide (-1 + (j : Int) < (n : Int)) = false := decide_eq_false (by omega)
          obtain rfl : j = n + 1 := by omega
          have HO2 := Lib.hid (show OwnP wr w.heap.size u7 (refL ss fs cl (n + 1) (i + 1) 0) ∧ Below w.heap.size w wr by
            have h := HO.out
            unfold refL at h ⊢
            rw [allA_next]; exact h)
          clear HO
          go_wp2_with fail
          exact ⟨⟨i + 1, by omega, by simp, HO2⟩, by simp [intOf]; omega⟩
    · have hd1 : decide (-1 + (i : Int) < (n : Int)) = false := decide_eq_false (by omega)
      obtain rfl : i = n + 1 := by omega
      go_wp2_with fail
      go_ret
      exact ⟨_, rfl, HO.out.1, HO.out.2⟩
end Go.Proofs.Ytlamppplnojpbaa
namespace Go.Proofs.Ytlamppplnojpbaa
open Go.RowKit Go.Shelf
attribute [local go_sem] Oper.semAt_some
theorem padF_app {fs : List Int} (h : fs.length ≤ 4) : padF fs = fs ++ List.replicate (4 - fs.length) 0 := by
  unfold padF
  rw [List.take_append, List.take_of_length_le h, List.take_replicate]
  congr 2; omega
theorem getD_app (fs r : List Int) (i : Nat) (h : i < fs.length) : (fs ++ r).getD i 0 = fs.getD i 0 := by
  rw [List.getD_eq_getElem?_getD, List.getElem?_append_left h, ← List.getD_eq_getElem?_getD]
theorem after_app (ss fs r q : List Int) (hl : fs.length = ss.length) (a b : Int) (ha : -1 ≤ a ∧ a < (ss.length : Int)) (hb : -1 ≤ b ∧ b < (ss.length : Int)) (hab : a ≠ b) : afterF (ss ++ r) (fs ++ q) a b = afterF ss fs a b ++ q := by
  unfold afterF
  by_cases h1 : a = -1
  · rw [if_pos h1, if_pos h1, getD_app _ _ _ (by omega), List.set_append_left _ _ (by omega)]
  · rw [if_neg h1, if_neg h1]
    by_cases h2 : b = -1
    · rw [if_pos h2, if_pos h2, List.set_append_left _ _ (by omega)]
    · rw [if_neg h2, if_neg h2, getD_app _ _ _ (by omega), getD_app _ _ _ (by omega), getD_app _ _ _ (by omega), List.set_append_left _ _ (by omega), List.set_append_left _ _ (by rw [List.length_set]; omega)]
theorem pad_after (ss fs : List Int) (hl : fs.length = ss.length) (hs : ss.length ≤ 4) (a b : Int) (ha : -1 ≤ a ∧ a < (ss.length : Int)) (hb : -1 ≤ b ∧ b < (ss.length : Int)) (hab : a ≠ b) : (afterF (padF ss) (padF fs) a b = padF fs) ↔ (fs = afterF ss fs a b) := by
  rw [padF_app hs, padF_app (show fs.length ≤ 4 by omega), after_app ss fs _ _ hl a b ha hb hab, List.append_left_inj]
  exact eq_comm
def keepQ (cl : Bool) (x : Int × Int) : Bool := !(cl && (decide (x.1 = -1) || decide (x.2 = -1))) && !decide (x.1 = x.2)
theorem steps_same (cl : Bool) (n : Nat) (h1 : 1 ≤ n) (h4 : n ≤ 4) : (allA (n + 1) (n + 1) 0).filter (keepQ cl) = ssF cl n ∧ ∀ x ∈ ssF cl n, (-1 ≤ x.1 ∧ x.1 < (n : Int)) ∧ (-1 ≤ x.2 ∧ x.2 < (n : Int)) ∧ x.1 ≠ x.2 := by
  obtain rfl | rfl | rfl | rfl : n = 1 ∨ n = 2 ∨ n = 3 ∨ n = 4 := by omega
  all_goals cases cl <;> decide +kernel
theorem refL_steps (ss fs : List Int) (cl : Bool) (hj : jugsB ss = true) (hf : fitsB ss fs = true) : refL ss fs cl (ss.length + 1) (ss.length + 1) 0 = stepsF (padF ss) (padF fs) (ssF cl ss.length) := by
  have hn : 1 ≤ ss.length ∧ ss.length ≤ 4 := by
    unfold jugsB at hj
    simp only [Bool.and_eq_true, decide_eq_true_eq] at hj
    exact hj.1
  have hfl : fs.length = ss.length := by
    unfold fitsB at hf
    simp only [Bool.and_eq_true, decide_eq_true_eq] at hf
    exact hf.1
  obtain ⟨h1, h2⟩ := steps_same cl ss.length hn.1 hn.2
  have h3 : refL ss fs cl (ss.length + 1) (ss.length + 1) 0 = ((allA (ss.length + 1) (ss.length + 1) 0).filter (keepQ cl)).filter fun x => !decide (fs = afterF ss fs x.1 x.2) := by
    unfold refL
    rw [List.filter_filter]
    congr 1
    funext x
    unfold keepB keepQ
    cases decide (x.1 = x.2) <;> cases decide (fs = afterF ss fs x.1 x.2) <;> cases (cl && (decide (x.1 = -1) || decide (x.2 = -1))) <;> rfl
  rw [h3, h1]
  unfold stepsF
  apply List.filter_congr
  intro x hx
  obtain ⟨a1, a2, a3⟩ := h2 x hx
  have := pad_after ss fs hfl hn.2 x.1 x.2 a1 a2 a3
  congr 1
  exact (decide_eq_decide.2 this).symm
theorem errA_fits {ss fs : List Int} (hj : jugsB ss = true) (hf : fitsB ss fs = true) : errA ss [fs] = 0 := by
  unfold errA; rw [if_pos hj]; simp [hf]
end Go.Proofs.Ytlamppplnojpbaa
namespace Go.Proofs.Ytlamppplnojpbaa
open Go.RowKit Go.Shelf
attribute [local go_sem] Oper.semAt_some
theorem part20 (a b : Int) (W : World) : (part 3 #[.int .i64 a, .int .i64 b] 0).run Try.prog W = .ok (.int .i64 a) W := by kernel_rfl
theorem part21 (a b : Int) (W : World) : (part 3 #[.int .i64 a, .int .i64 b] 1).run Try.prog W = .ok (.int .i64 b) W := by kernel_rfl
theorem eq48s (x y : Int) (W : World) : (Op.equalIn 10000 48 (.agg #[.int .i64 x, .int .i64 y]) (.agg #[.int .i64 x, .int .i64 y])).run Try.prog W = .ok true W := by
  obtain ⟨i, hi⟩ := info3i
  refine (run_equalIn_array (P := Try.prog) W 9999 _ _ Try.underlying48 hi).trans ?_
  rw [cells3]
  simp only [List.range, List.range.loop, Op.eqItems, Sem.run_bind, Nat.mul_one, part20, Result.andThen_ok, eqI3]
  simp [go_sem, eqI3]
set_option maxRecDepth 100000 in
set_option maxHeartbeats 2000000 in
theorem JugSteps_any (zs ms : List Int) (v u : Value) (w : World) (hv : SlI w v zs) (hu : SlI w u ms) (h1 : zs.length ≤ 9223372036854775807) (h2 : ms.length ≤ 9223372036854775807) :
    Calls Try.prog 4 #[v, u] w fun e w' => e = .returned (.bool true) ∧ Below w.heap.size w w' := by
  have HT := Lib.hid (tame_any zs v 4 (by omega) w hv h1)
  have hj0 := tameF_jugs zs 4 (by omega)
  have hF := fun (x : Value) (W : World) (hx : SlI W x (tameF zs 4)) (hb : Below w.heap.size w W) => filled_any (tameF zs 4) ms x u W hx (hu.grow hb) hj0 h2
  have hfit0 := filF_fits ms hj0
  generalize tameF zs 4 = ss at *
  generalize filF ss ms = fs at *
  have HJ := Lib.hid hj0
  have HFI := Lib.hid hfit0
  have HF := Lib.hid hF
  clear hj0 hfit0 hF hv hu
  go_enter Try.func4, Try.ntmps4
  go_wp2_with fail
  refine HT.out.mono ?_
  rintro e w1 ⟨x, rfl, hx, hb1⟩
  have HX1 := Lib.hid (sli_own hx)
  have HB1 := Lib.hid hb1
  clear hx hb1 HT
  go_wp2_with fail
  refine (HF.out x w1 HX1.out HB1.out).mono ?_
  rintro e w2 ⟨f, rfl, hf, hb2⟩
  have hne : fs ≠ [] := fun h => by
    have a := HFI.out; have b := HJ.out
    unfold fitsB at a; unfold jugsB at b
    simp only [Bool.and_eq_true, decide_eq_true_eq] at a b
    have := a.1; rw [h, List.length_nil] at this; omega
  obtain ⟨gf, cf, rfl, hgf, hfi⟩ := own_ints hf hne
  have hfc : fs.length ≤ cf := by
    obtain ⟨a, c, e, hc, _⟩ := sli_own hf
    cases e; exact hc
  have HX2 := Lib.hid (HX1.out.grow hb2)
  have HG2 := Lib.hid hgf
  have HI2 := Lib.hid hfi
  have HFC := Lib.hid hfc
  have HF2 := Lib.hid (sli_own hf)
  have HB2 := Lib.hid (Below.andThen HB1.out hb2 (Nat.le_refl _))
  clear hgf hfi hfc hf hb2 hne HF HX1 HB1
  go_wp2_with fail
  go_loopw [7] (fun kv wr => ∃ k : Nat, k ≤ 2 ∧ kv = .int .i64 (k : Int) ∧ Hid (Below w2.heap.size w2 wr)) (fun kv _ => (2 - intOf kv).toNat)
  case atStart => exact ⟨0, by omega, by simp, Lib.hid (Below.refl _ _)⟩
  case round =>
    obtain ⟨k, hk, rfl, HBR⟩ := hrel
    have kw : IntKind.i64.wrap ((k : Int) + 1) = ((k + 1 : Nat) : Int) := by rw [i64_of _ (by omega) (by omega)]; omega
    by_cases hk2 : k < 2
    · have hd1 : decide ((k : Int) < 2) = true := decide_eq_true (by omega)
      have hd1n : decide (k < 2) = true := decide_eq_true hk2
      obtain ⟨cl, hcl⟩ : ∃ cl, ((k : Int) == 0) = cl := ⟨_, rfl⟩
      go_wp2_with fail
      refine (Steps_ok ss fs x _ cl wr (HX2.out.grow HBR.out) (by have := jugsB_len HJ.out; omega) (HF2.out.grow HBR.out) (errA_fits HJ.out HFI.out)).mono ?_
      rintro e w3 ⟨s, rfl, hs, hb3⟩
      have HS3 := Lib.hid hs
      have HB3 := Lib.hid (Below.andThen HBR.out hb3 (Nat.le_refl _))
      clear hs hb3
      go_wp2_with fail
      refine (refSteps_any ss fs x gf cf cl w3 (HX2.out.grow HB3.out) (Nat.lt_of_lt_of_le HG2.out HB3.out.size) (HI2.out.below HB3.out HG2.out) HFC.out HJ.out HFI.out).mono ?_
      rw [refL_steps ss fs cl HJ.out HFI.out]
      rintro e w4 ⟨r, rfl, hr, hb4⟩
      have hs4 : OwnP w4 wr.heap.size s (stepsF (padF ss) (padF fs) (ssF cl ss.length)) := own_grow HS3.out hb4
      have hLB : (stepsF (padF ss) (padF fs) (ssF cl ss.length)).length ≤ 30 := by
        rw [← refL_steps ss fs cl HJ.out HFI.out]
        have := jugsB_len HJ.out
        exact refL_len ss fs cl _ _ 0 (by omega) (by omega) (by omega)
      generalize stepsF (padF ss) (padF fs) (ssF cl ss.length) = L at *
      obtain ⟨sa, sc, rfl, hsa⟩ := hs4.open
      obtain ⟨ra, rc, rfl, hra⟩ := hr.open
      have HB4 := Lib.hid (Below.andThen HB3.out hb4 (Nat.le_refl _))
      have HSA := Lib.hid hsa
      have HRA := Lib.hid hra
      clear hs4 hr hb4 hsa hra HS3 HB3 HBR
      go_wp2_with fail
      go_loopw [11] (fun iv wx => ∃ i : Nat, i ≤ L.length ∧ iv = .int .i64 (i : Int) ∧ Hid (Below w4.heap.size w4 wx)) (fun iv _ => ((L.length : Int) - intOf iv).toNat)
      case atStart => exact ⟨0, by omega, by simp, Lib.hid (Below.refl _ _)⟩
      case round =>
        obtain ⟨i, hi, rfl, HBX⟩ := hrel
        have iw : IntKind.i64.wrap ((i : Int) + 1) = ((i + 1 : Nat) : Int) := by rw [i64_of _ (by omega) (by omega)]; omega
        by_cases hil : i < L.length
        · have hd2 : decide ((i : Int) < (L.length : Int)) = true := decide_eq_true (by omega)
          have hd2n : decide (i < L.length) = true := decide_eq_true hil
          obtain ⟨gs, rfl, hps⟩ : ∃ gs, sa = some ⟨gs, 0, none⟩ ∧ PtsAt w4 gs 0 L := by
            rcases HSA.out with ⟨_, _, h⟩ | ⟨g, _, h, h2, _⟩
            · rw [h] at hil; exact absurd hil (by simp)
            · exact ⟨g, h, h2⟩
          obtain ⟨gr, rfl, hpr⟩ : ∃ gr, ra = some ⟨gr, 0, none⟩ ∧ PtsAt w4 gr 0 L := by
            rcases HRA.out with ⟨_, _, h⟩ | ⟨g, _, h, h2, _⟩
            · rw [h] at hil; exact absurd hil (by simp)
            · exact ⟨g, h, h2⟩
          have hcs : ∀ W, Below wr.heap.size wr W → W.cell? ⟨gs, i * 2, none⟩ = some (.int .i64 L[i].1) ∧ W.cell? ⟨gs, i * 2 + 1, none⟩ = some (.int .i64 L[i].2) := fun W hb => by
            have h := (hps.grow HBX.out).grow hb
            exact ⟨by simpa using h.x i hil, by simpa using h.y i hil⟩
          have hcr : ∀ W, Below wr.heap.size wr W → W.cell? ⟨gr, i * 2, none⟩ = some (.int .i64 L[i].1) ∧ W.cell? ⟨gr, i * 2 + 1, none⟩ = some (.int .i64 L[i].2) := fun W hb => by
            have h := (hpr.grow HBX.out).grow hb
            exact ⟨by simpa using h.x i hil, by simpa using h.y i hil⟩
          generalize L[i].1 = px at *
          generalize L[i].2 = py at *
          have HCS := Lib.hid hcs
          have HCR := Lib.hid hcr
          clear hcs hcr hps hpr HSA HRA
          go_wp2_with fail
          refine wp_region_rel (by kernel_rfl) (by kernel_rfl) [49, 50, 51, 52, 53, 54, 55, 56, 57] [LitR (.slice (some ⟨gs, 0, none⟩) L.length sc), LitR (.int .i64 (i : Int)), LitR (.pointer (some ⟨gs, i * 2, none⟩)), LitR (.agg #[.int .i64 px, .int .i64 py]), LitR (.slice (some ⟨gr, 0, none⟩) L.length rc), LitR (.int .i64 (i : Int)), LitR (.pointer (some ⟨gr, i * 2, none⟩)), LitR (.agg #[.int .i64 px, .int .i64 py]), LitR (.bool false)] 9 rfl (List.forall_mem_cons.2 ⟨LitR.stab _, (List.forall_mem_cons.2 ⟨LitR.stab _, (List.forall_mem_cons.2 ⟨LitR.stab _, (List.forall_mem_cons.2 ⟨LitR.stab _, (List.forall_mem_cons.2 ⟨LitR.stab _, (List.forall_mem_cons.2 ⟨LitR.stab _, (List.forall_mem_cons.2 ⟨LitR.stab _, (List.forall_mem_cons.2 ⟨LitR.stab _, (List.forall_mem_cons.2 ⟨LitR.stab _, (fun _ h => nomatch h)⟩)⟩)⟩)⟩)⟩)⟩)⟩)⟩)⟩) ⟨[u49, u50, u51, u52, u53, u54, u55, u56, u57], by simp only [putAll, Act.put, List.setIfInBounds_toArray, List.set_cons_succ, List.set_cons_zero], rfl⟩ ?steps ?fin
          case steps =>
            simp only [relSteps]
            refine ⟨?_, ?_, ?_, ?_, ?_, ?_, ?_, ?_, ?_, trivial⟩
            · rintro vs W K hc hvl hw hK
              obtain ⟨x0, x1, x2, x3, x4, x5, x6, x7, x8, rfl⟩ := len9 hvl
              have HK := Lib.hid hK
              have HC := Lib.hid hc
              have HW := Lib.hid hw
              clear hK hc hw hvl
              simp only [putAll, Act.put, List.setIfInBounds_toArray, List.set_cons_succ, List.set_cons_zero]
              clear HW
              go_wp2_with fail
              have fin := HK.out (.slice (some ⟨gs, 0, none⟩) L.length sc) W (Below.refl _ _) rfl
              simp only [putAll, Act.put, List.setIfInBounds_toArray, List.set_cons_succ, List.set_cons_zero] at fin
              exact fin
            · rintro vs W K hc hvl hw hK
              obtain ⟨x0, x1, x2, x3, x4, x5, x6, x7, x8, rfl⟩ := len9 hvl
              have HK := Lib.hid hK
              have HC := Lib.hid hc
              have HW := Lib.hid hw
              clear hK hc hw hvl
              simp only [putAll, Act.put, List.setIfInBounds_toArray, List.set_cons_succ, List.set_cons_zero]
              clear HW
              go_wp2_with fail
              have fin := HK.out (.int .i64 (i : Int)) W (Below.refl _ _) rfl
              simp only [putAll, Act.put, List.setIfInBounds_toArray, List.set_cons_succ, List.set_cons_zero] at fin
              exact fin
            · rintro vs W K hc hvl hw hK
              obtain ⟨x0, x1, x2, x3, x4, x5, x6, x7, x8, rfl⟩ := len9 hvl
              have HK := Lib.hid hK
              have HC := Lib.hid hc
              have HW := Lib.hid hw
              clear hK hc hw hvl
              have hd0 := HW.out ⟨0, .data⟩ (by simp) rfl
              obtain rfl : x0 = .slice (some ⟨gs, 0, none⟩) L.length sc := rel_get hd0 rfl
              have hd1 := HW.out ⟨1, .data⟩ (by simp) rfl
              obtain rfl : x1 = .int .i64 (i : Int) := rel_get hd1 rfl
              simp only [putAll, Act.put, List.setIfInBounds_toArray, List.set_cons_succ, List.set_cons_zero]
              clear HW hd0 hd1
              go_wp2_with fail
              have fin := HK.out (.pointer (some ⟨gs, i * 2, none⟩)) W (Below.refl _ _) rfl
              simp only [putAll, Act.put, List.setIfInBounds_toArray, List.set_cons_succ, List.set_cons_zero] at fin
              exact fin
            · rintro vs W K hc hvl hw hK
              obtain ⟨x0, x1, x2, x3, x4, x5, x6, x7, x8, rfl⟩ := len9 hvl
              have HK := Lib.hid hK
              have HC := Lib.hid hc
              have HW := Lib.hid hw
              clear hK hc hw hvl
              have hd2 := HW.out ⟨2, .data⟩ (by simp) rfl
              obtain rfl : x2 = .pointer (some ⟨gs, i * 2, none⟩) := rel_get hd2 rfl
              simp only [putAll, Act.put, List.setIfInBounds_toArray, List.set_cons_succ, List.set_cons_zero]
              obtain ⟨c0, c1⟩ := HCS.out W HC.out
              clear HW hd2
              go_wp2_with fail
              have fin := HK.out (.agg #[.int .i64 px, .int .i64 py]) W (Below.refl _ _) rfl
              simp only [putAll, Act.put, List.setIfInBounds_toArray, List.set_cons_succ, List.set_cons_zero] at fin
              exact fin
            · rintro vs W K hc hvl hw hK
              obtain ⟨x0, x1, x2, x3, x4, x5, x6, x7, x8, rfl⟩ := len9 hvl
              have HK := Lib.hid hK
              have HC := Lib.hid hc
              have HW := Lib.hid hw
              clear hK hc hw hvl
              simp only [putAll, Act.put, List.setIfInBounds_toArray, List.set_cons_succ, List.set_cons_zero]
              clear HW
              go_wp2_with fail
              have fin := HK.out (.slice (some ⟨gr, 0, none⟩) L.length rc) W (Below.refl _ _) rfl
              simp only [putAll, Act.put, List.setIfInBounds_toArray, List.set_cons_succ, List.set_cons_zero] at fin
              exact fin
            · rintro vs W K hc hvl hw hK
              obtain ⟨x0, x1, x2, x3, x4, x5, x6, x7, x8, rfl⟩ := len9 hvl
              have HK := Lib.hid hK
              have HC := Lib.hid hc
              have HW := Lib.hid hw
              clear hK hc hw hvl
              simp only [putAll, Act.put, List.setIfInBounds_toArray, List.set_cons_succ, List.set_cons_zero]
              clear HW
              go_wp2_with fail
              have fin := HK.out (.int .i64 (i : Int)) W (Below.refl _ _) rfl
              simp only [putAll, Act.put, List.setIfInBounds_toArray, List.set_cons_succ, List.set_cons_zero] at fin
              exact fin
            · rintro vs W K hc hvl hw hK
              obtain ⟨x0, x1, x2, x3, x4, x5, x6, x7, x8, rfl⟩ := len9 hvl
              have HK := Lib.hid hK
              have HC := Lib.hid hc
              have HW := Lib.hid hw
              clear hK hc hw hvl
              have hd4 := HW.out ⟨4, .data⟩ (by simp) rfl
              obtain rfl : x4 = .slice (some ⟨gr, 0, none⟩) L.length rc := rel_get hd4 rfl
              have hd5 := HW.out ⟨5, .data⟩ (by simp) rfl
              obtain rfl : x5 = .int .i64 (i : Int) := rel_get hd5 rfl
              simp only [putAll, Act.put, List.setIfInBounds_toArray, List.set_cons_succ, List.set_cons_zero]
              clear HW hd4 hd5
              go_wp2_with fail
              have fin := HK.out (.pointer (some ⟨gr, i * 2, none⟩)) W (Below.refl _ _) rfl
              simp only [putAll, Act.put, List.setIfInBounds_toArray, List.set_cons_succ, List.set_cons_zero] at fin
              exact fin
            · rintro vs W K hc hvl hw hK
              obtain ⟨x0, x1, x2, x3, x4, x5, x6, x7, x8, rfl⟩ := len9 hvl
              have HK := Lib.hid hK
              have HC := Lib.hid hc
              have HW := Lib.hid hw
              clear hK hc hw hvl
              have hd6 := HW.out ⟨6, .data⟩ (by simp) rfl
              obtain rfl : x6 = .pointer (some ⟨gr, i * 2, none⟩) := rel_get hd6 rfl
              simp only [putAll, Act.put, List.setIfInBounds_toArray, List.set_cons_succ, List.set_cons_zero]
              obtain ⟨c0, c1⟩ := HCR.out W HC.out
              clear HW hd6
              go_wp2_with fail
              have fin := HK.out (.agg #[.int .i64 px, .int .i64 py]) W (Below.refl _ _) rfl
              simp only [putAll, Act.put, List.setIfInBounds_toArray, List.set_cons_succ, List.set_cons_zero] at fin
              exact fin
            · rintro vs W K hc hvl hw hK
              obtain ⟨x0, x1, x2, x3, x4, x5, x6, x7, x8, rfl⟩ := len9 hvl
              have HK := Lib.hid hK
              have HC := Lib.hid hc
              have HW := Lib.hid hw
              clear hK hc hw hvl
              have hd3 := HW.out ⟨3, .data⟩ (by simp) rfl
              obtain rfl : x3 = .agg #[.int .i64 px, .int .i64 py] := rel_get hd3 rfl
              have hd7 := HW.out ⟨7, .data⟩ (by simp) rfl
              obtain rfl : x7 = .agg #[.int .i64 px, .int .i64 py] := rel_get hd7 rfl
              simp only [putAll, Act.put, List.setIfInBounds_toArray, List.set_cons_succ, List.set_cons_zero]
              have HE := eq48s px py W
              clear HW hd3 hd7
              go_wp2_with fail
              have fin := HK.out (.bool false) W (Below.refl _ _) rfl
              simp only [putAll, Act.put, List.setIfInBounds_toArray, List.set_cons_succ, List.set_cons_zero] at fin
              exact fin
          case fin =>
            intro vs W hc hvl hv
            obtain ⟨x0, x1, x2, x3, x4, x5, x6, x7, x8, rfl⟩ := len9 hvl
            have hd8 := hv 8 (by omega)
            obtain rfl : x8 = .bool false := rel_get hd8 rfl
            clear hd8
            simp only [putAll, Act.put, List.setIfInBounds_toArray, List.set_cons_succ, List.set_cons_zero]
            have HW2 := Lib.hid hc
            clear hc
            go_wp2_with fail
            exact ⟨⟨i + 1, by omega, by simp, Lib.hid (Below.andThen HBX.out HW2.out (Nat.le_refl _))⟩, by simp [intOf]; omega⟩
        · have hd2 : decide ((i : Int) < (L.length : Int)) = false := decide_eq_false (by omega)
          have hd2n : decide (i < L.length) = false := decide_eq_false hil
          go_wp2_with fail
          exact ⟨⟨k + 1, by omega, by simp, Lib.hid (Below.andThen HB4.out HBX.out (Nat.le_refl _))⟩, by simp [intOf]; omega⟩
    · have hd1 : decide ((k : Int) < 2) = false := decide_eq_false (by omega)
      have hd1n : decide (k < 2) = false := decide_eq_false (by omega)
      obtain rfl : k = 2 := by omega
      go_wp2_with fail
      refine (awake_any _).mono ?_
      rintro e w3 ⟨rfl, hb⟩
      have HE := Lib.hid (Below.andThen (Below.andThen HB2.out HBR.out (Nat.le_refl _)) hb (Nat.le_refl _))
      clear hb
      go_wp2_with fail
      go_ret
      exact ⟨rfl, HE.out⟩
end Go.Proofs.Ytlamppplnojpbaa
namespace Go.Proofs.Ytlamppplnojpbaa
open Go.RowKit Go.Shelf
attribute [local go_sem] Oper.semAt_some
/-! the search finds least numbers of steps -/
/-- n steps lead from S to a filling -/
def Rch (P : List Int) (ss : List (Int × Int)) (S : List Int) : Nat → List Int → Prop
  | 0, F => F = S
  | n + 1, G => ∃ F x, Rch P ss S n F ∧ x ∈ ss ∧ G = afterF P F x.1 x.2
def kOf (A : Sn) (F : List Int) : Int := ((lookA A F).map Cm.k).getD 0
theorem kOf_some {A : Sn} {F : List Int} {c : Cm} (h : lookA A F = some c) : kOf A F = c.k := by unfold kOf; rw [h]; rfl
theorem look_none_tail {p : List Int × Cm} {r : Sn} {F : List Int} (h : lookA (p :: r) F = none) : lookA r F = none := by
  rw [lookA] at h
  split at h
  · cases h
  · exact h
/-- what a visit of one filling's steps does -/
structure VisR (P : List Int) (gl : List Int → Bool) (here : List Int) (cnt : Int) (xs : List (Int × Int)) (s t : Sn × List (List Int)) (o : Option (List Int)) : Prop where
  old : ∀ F c, lookA s.1 F = some c → lookA t.1 F = some c
  new : ∀ F c, lookA t.1 F = some c → lookA s.1 F = some c ∨ (lookA s.1 F = none ∧ c.k = cnt ∧ (o = none → F ∈ t.2 ∧ gl F = false))
  queue : ∃ news, t.2 = s.2 ++ news ∧ ∀ q ∈ news, ∃ c, lookA t.1 q = some c ∧ c.k = cnt
  all : o = none → ∀ x ∈ xs, (lookA t.1 (afterF P here x.1 x.2)).isSome = true
  goal : ∀ g, o = some g → gl g = true ∧ ∃ c, lookA t.1 g = some c ∧ c.k = cnt ∧ lookA s.1 g = none
theorem visit_full {P : List Int} {gl : List Int → Bool} {here : List Int} {cnt : Int} : ∀ (xs : List (Int × Int)) (s t : Sn × List (List Int)) (o : Option (List Int)), visit P gl here cnt xs s = (t, o) → VisR P gl here cnt xs s t o
  | [], s, t, o, h => by
    rw [visit] at h; cases h
    exact ⟨fun _ _ h => h, fun _ _ h => .inl h, ⟨[], by simp, (fun q hq => by cases hq)⟩, (fun _ x hx => by cases hx), (fun g hg => by cases hg)⟩
  | x :: xs, s, t, o, h => by
    rw [visit] at h
    by_cases e : (lookA s.1 (afterF P here x.1 x.2)).isSome = true
    · rw [if_pos e] at h
      have ih := visit_full xs s t o h
      refine ⟨ih.old, ih.new, ih.queue, fun ho y hy => ?_, ih.goal⟩
      rcases List.mem_cons.1 hy with rfl | hy
      · obtain ⟨c, hc⟩ := Option.isSome_iff_exists.1 e
        rw [ih.old _ _ hc]; rfl
      · exact ih.all ho y hy
    · rw [if_neg e] at h
      have e' : (lookA s.1 (afterF P here x.1 x.2)).isSome = false := by simpa using e
      have en : lookA s.1 (afterF P here x.1 x.2) = none := by simpa using e'
      have hold : ∀ {F c}, lookA s.1 F = some c → lookA ((afterF P here x.1 x.2, (⟨here, x.1, x.2, cnt⟩ : Cm)) :: s.1) F = some c := fun h => lookA_older e' h
      have hhere : lookA ((afterF P here x.1 x.2, (⟨here, x.1, x.2, cnt⟩ : Cm)) :: s.1) (afterF P here x.1 x.2) = some ⟨here, x.1, x.2, cnt⟩ := by rw [lookA, if_pos rfl]
      by_cases g : gl (afterF P here x.1 x.2) = true
      · rw [if_pos g] at h; cases h
        refine ⟨fun _ _ h => hold h, fun F c h => ?_, ⟨[], by simp, (fun q hq => by cases hq)⟩, (fun ho => by cases ho), fun g' hg' => ?_⟩
        · by_cases e2 : afterF P here x.1 x.2 = F
          · subst e2; rw [hhere] at h; cases h
            exact .inr ⟨en, rfl, (fun ho => by cases ho)⟩
          · left; rw [lookA, if_neg e2] at h; exact h
        · cases hg'; exact ⟨g, _, hhere, rfl, en⟩
      · rw [if_neg g] at h
        have ih := visit_full xs _ t o h
        obtain ⟨news, hq, hn⟩ := ih.queue
        have hh := ih.old _ _ hhere
        refine ⟨fun F c h => ih.old F c (hold h), fun F c h => ?_, ⟨afterF P here x.1 x.2 :: news, by rw [hq]; simp, fun q hq' => ?_⟩, fun ho y hy => ?_, fun g' hg' => ?_⟩
        · rcases ih.new F c h with h1 | ⟨h1, h2, h3⟩
          · by_cases e2 : afterF P here x.1 x.2 = F
            · subst e2; rw [hhere] at h1; cases h1
              exact .inr ⟨en, rfl, fun _ => ⟨by rw [hq]; simp, by simpa using g⟩⟩
            · left; rw [lookA, if_neg e2] at h1; exact h1
          · exact .inr ⟨look_none_tail h1, h2, h3⟩
        · rcases List.mem_cons.1 hq' with rfl | hq'
          · exact ⟨_, hh, rfl⟩
          · exact hn q hq'
        · rcases List.mem_cons.1 hy with rfl | hy
          · rw [hh]; rfl
          · exact ih.all ho y hy
        · obtain ⟨h1, c, h2, h3, h4⟩ := ih.goal g' hg'
          exact ⟨h1, c, h2, h3, look_none_tail h4⟩
/-- what stands between two visits -/
structure BInv (P : List Int) (gl : List Int → Bool) (ss : List (Int × Int)) (S : List Int) (A : Sn) (qs : List (List Int)) : Prop where
  inq : ∀ q ∈ qs, ∃ c, lookA A q = some c
  sorted : qs.Pairwise (fun a b => kOf A a ≤ kOf A b)
  near : ∀ F c, lookA A F = some c → ∀ q ∈ qs, c.k ≤ kOf A q + 1
  exp : ∀ F c, lookA A F = some c → F ∉ qs → ∀ x ∈ ss, ∃ c', lookA A (afterF P F x.1 x.2) = some c' ∧ c'.k ≤ c.k + 1
  nogoal : ∀ F c, lookA A F = some c → gl F = false
  st : lookA A S = some c0
theorem BInv.start {P : List Int} {gl : List Int → Bool} {ss : List (Int × Int)} {S : List Int} (hg : gl S = false) : BInv P gl ss S [(S, c0)] [S] := by
  have hs : lookA [(S, c0)] S = some c0 := by rw [lookA, if_pos rfl]
  have hone : ∀ F c, lookA [(S, c0)] F = some c → F = S ∧ c = c0 := fun F c h => by
    rw [lookA] at h
    split at h
    · rename_i e; cases h; exact ⟨e.symm, rfl⟩
    · simp [lookA] at h
  refine ⟨fun q hq => ⟨c0, by rw [List.mem_singleton.1 hq]; exact hs⟩, List.pairwise_singleton _ _, fun F c h q hq => ?_, fun F c h hn => ?_, fun F c h => by rw [(hone F c h).1]; exact hg, hs⟩
  · rw [List.mem_singleton.1 hq, kOf_some hs, (hone F c h).2]; omega
  · exact absurd (List.mem_singleton.2 (hone F c h).1) hn
theorem BInv.next {P : List Int} {gl : List Int → Bool} {ss : List (Int × Int)} {S : List Int} {A A' : Sn} {h : List Int} {qs qs' : List (List Int)} (hi : BInv P gl ss S A (h :: qs)) (hv : VisR P gl h (kOf A h + 1) ss (A, qs) (A', qs') none) : BInv P gl ss S A' qs' := by
  obtain ⟨news, hq, hn⟩ := hv.queue
  have hq : qs' = qs ++ news := hq
  have hold : ∀ F c, lookA A F = some c → lookA A' F = some c := hv.old
  have hsort := List.pairwise_cons.1 hi.sorted
  have hk : ∀ q ∈ qs, kOf A' q = kOf A q := fun q hq => by
    obtain ⟨c, hc⟩ := hi.inq q (List.mem_cons_of_mem _ hq)
    rw [kOf_some hc, kOf_some (hold _ _ hc)]
  have hkn : ∀ q ∈ news, kOf A' q = kOf A h + 1 := fun q hq => by
    obtain ⟨c, hc, h2⟩ := hn q hq
    rw [kOf_some hc, h2]
  have hle : ∀ F c, lookA A' F = some c → c.k ≤ kOf A h + 1 := fun F c hc => by
    rcases hv.new F c hc with h1 | ⟨_, h2, _⟩
    · exact hi.near F c h1 h List.mem_cons_self
    · omega
  refine ⟨fun q hq' => ?_, ?_, fun F c hc q hq' => ?_, fun F c hc hnq x hx => ?_, fun F c hc => ?_, hold _ _ hi.st⟩
  · rw [hq, List.mem_append] at hq'
    rcases hq' with h1 | h1
    · obtain ⟨c, hc⟩ := hi.inq q (List.mem_cons_of_mem _ h1)
      exact ⟨c, hold _ _ hc⟩
    · obtain ⟨c, hc, _⟩ := hn q h1; exact ⟨c, hc⟩
  · rw [hq, List.pairwise_append]
    refine ⟨hsort.2.imp_of_mem (fun ha hb hab => by rw [hk _ ha, hk _ hb]; exact hab), List.pairwise_of_forall_mem_list (fun a ha b hb => by rw [hkn a ha, hkn b hb]; omega), fun a ha b hb => ?_⟩
    rw [hk a ha, hkn b hb]
    obtain ⟨c, hc⟩ := hi.inq a (List.mem_cons_of_mem _ ha)
    rw [kOf_some hc]
    exact hi.near a c hc h List.mem_cons_self
  · have h1 := hle F c hc
    rw [hq, List.mem_append] at hq'
    rcases hq' with h2 | h2
    · rw [hk q h2]; have := hsort.1 q h2; omega
    · rw [hkn q h2]; omega
  · rw [hq, List.mem_append] at hnq
    rcases hv.new F c hc with h1 | ⟨_, _, h3⟩
    · by_cases e : F = h
      · subst e
        obtain ⟨c', hc'⟩ := Option.isSome_iff_exists.1 (hv.all rfl x hx)
        refine ⟨c', hc', ?_⟩
        have := hle _ _ hc'
        rw [kOf_some h1] at this; exact this
      · obtain ⟨c', hc', h4⟩ := hi.exp F c h1 (fun hm => by
          rcases List.mem_cons.1 hm with h5 | h5
          · exact e h5
          · exact hnq (.inl h5)) x hx
        exact ⟨c', hold _ _ hc', h4⟩
    · have := (h3 rfl).1
      rw [hq, List.mem_append] at this
      exact absurd this hnq
  · rcases hv.new F c hc with h1 | ⟨_, _, h3⟩
    · exact hi.nogoal F c h1
    · exact (h3 rfl).2
theorem BInv.upto {P : List Int} {gl : List Int → Bool} {ss : List (Int × Int)} {S : List Int} {A : Sn} {qs : List (List Int)} (hi : BInv P gl ss S A qs) : ∀ (n : Nat) (F : List Int), Rch P ss S n F → (∀ q ∈ qs, (n : Int) ≤ kOf A q) → ∃ c, lookA A F = some c ∧ c.k ≤ (n : Int)
  | 0, F, h, _ => by rw [Rch] at h; subst h; exact ⟨c0, hi.st, by simp [c0]⟩
  | n + 1, G, h, hq => by
    obtain ⟨F, x, h1, h2, rfl⟩ := h
    obtain ⟨c, hc, hk⟩ := BInv.upto hi n F h1 (fun q hq' => by have := hq q hq'; omega)
    obtain ⟨c', h3, h4⟩ := hi.exp F c hc (fun hm => by
      have := hq F hm
      rw [kOf_some hc] at this; omega) x h2
    exact ⟨c', h3, by omega⟩
/-- what a search's result says -/
structure Least (P : List Int) (gl : List Int → Bool) (ss : List (Int × Int)) (S : List Int) (res : Sn × Option (List Int)) : Prop where
  non : res.2 = none → (∀ n F, Rch P ss S n F → ∃ c, lookA res.1 F = some c ∧ c.k ≤ (n : Int)) ∧ ∀ F c, lookA res.1 F = some c → gl F = false
  got : ∀ g, res.2 = some g → gl g = true ∧ ∃ c, lookA res.1 g = some c ∧ ∀ n F, Rch P ss S n F → gl F = true → c.k ≤ (n : Int)
theorem bfs_least (P : List Int) (gl : List Int → Bool) (ss : List (Int × Int)) (S : List Int) : ∀ (M : Nat) (A : Sn) (qs : List (List Int)) (res : Sn × Option (List Int)), BInv P gl ss S A qs → bfs P gl ss M A qs = some res → Least P gl ss S res
  | 0, _, _, _, _, h => by simp [bfs] at h
  | M + 1, A, [], res, hi, h => by
    rw [bfs] at h; cases h
    exact ⟨fun _ => ⟨fun n F hr => hi.upto n F hr ((fun q hq => by cases hq)), hi.nogoal⟩, (fun g hg => by cases hg)⟩
  | M + 1, A, q :: qs, res, hi, h => by
    rw [bfs] at h
    rcases hv : visit P gl q (((lookA A q).map Cm.k).getD 0 + 1) ss (A, qs) with ⟨⟨A', qs'⟩, o⟩
    rw [hv] at h
    have hf : VisR P gl q (kOf A q + 1) ss (A, qs) (A', qs') o := visit_full _ _ _ _ hv
    cases o with
    | some g =>
      cases h
      refine ⟨(fun h => by cases h), fun g' hg' => ?_⟩
      cases hg'
      obtain ⟨h1, c, h2, h3, _⟩ := hf.goal g rfl
      refine ⟨h1, c, h2, fun n F hr hg => ?_⟩
      rcases Int.lt_or_le (kOf A q) (n : Int) with h4 | h4
      · omega
      · obtain ⟨c', h5, _⟩ := hi.upto n F hr (fun q' hq' => by
          rcases List.mem_cons.1 hq' with rfl | hq'
          · exact h4
          · have := (List.pairwise_cons.1 hi.sorted).1 q' hq'; omega)
        rw [hi.nogoal F c' h5] at hg; cases hg
    | none => exact bfs_least P gl ss S M A' qs' res (hi.next hf) h
theorem srch_least (P : List Int) (gl : List Int → Bool) (ss : List (Int × Int)) (S : List Int) (M : Nat) (res : Sn × Option (List Int)) (h : srch P gl ss M S = some res) : Least P gl ss S res := by
  unfold srch at h
  split at h
  · rename_i hg
    cases h
    exact ⟨(fun h => by cases h), fun g hg' => by cases hg'; exact ⟨hg, c0, by rw [lookA, if_pos rfl], fun n F _ _ => by simp [c0]⟩⟩
  · rename_i hg
    exact bfs_least P gl ss S M _ _ res (BInv.start (by simpa using hg)) h
/-- what is in the map was reached by so many steps -/
theorem TreeA.rch {P : List Int} {ss : List (Int × Int)} {S : List Int} : ∀ {A : Sn}, TreeA P ss S A → ∀ {F c}, lookA A F = some c → Rch P ss S c.k.toNat F
  | [], _, _, _, h => by simp [lookA] at h
  | p :: r, ht, F, c, h => by
    obtain ⟨h1, h2, h3, h4, h5⟩ := ht
    rw [lookA] at h
    by_cases e : p.1 = F
    · rw [if_pos e] at h; cases h; subst e
      rcases h5 with ⟨h6, h7, _⟩ | ⟨c', h6, h7, h8, h9⟩
      · rw [h7, h6]; exact rfl
      · have h0 := (TreeA.knn h1 h6).1
        have hr := TreeA.rch h1 h6
        rw [show p.2.k.toNat = c'.k.toNat + 1 by omega]
        exact ⟨_, _, hr, h9, h8⟩
    · rw [if_neg e] at h; exact TreeA.rch h1 h
/-- the way along steps -/
def goF (P : List Int) (F : List Int) : List (Int × Int) → List Int
  | [] => F
  | x :: xs => goF P (afterF P F x.1 x.2) xs
theorem goF_app (P : List Int) : ∀ (xs ys : List (Int × Int)) (F : List Int), goF P F (xs ++ ys) = goF P (goF P F xs) ys
  | [], _, _ => rfl
  | x :: xs, ys, F => by rw [List.cons_append, goF, goF]; exact goF_app P xs ys _
theorem rch_go {P : List Int} {ss : List (Int × Int)} {S : List Int} {n : Nat} {F : List Int} (h : Rch P ss S n F) : ∀ (xs : List (Int × Int)), (∀ x ∈ xs, x ∈ ss) → Rch P ss S (n + xs.length) (goF P F xs)
  | [], _ => h
  | x :: xs, hx => by
    have h2 : Rch P ss S (n + 1) (afterF P F x.1 x.2) := ⟨F, x, h, hx x List.mem_cons_self, rfl⟩
    have := rch_go h2 xs (fun y hy => hx y (List.mem_cons_of_mem _ hy))
    rw [goF, List.length_cons, show n + (xs.length + 1) = n + 1 + xs.length by omega]
    exact this
theorem Rch.trans {P : List Int} {ss : List (Int × Int)} {S T : List Int} {n : Nat} (h : Rch P ss S n T) : ∀ {m : Nat} {F : List Int}, Rch P ss T m F → Rch P ss S (n + m) F
  | 0, F, h2 => by rw [Rch] at h2; subst h2; exact h
  | m + 1, G, ⟨F, x, h2, h3, h4⟩ => ⟨F, x, Rch.trans h h2, h3, h4⟩
theorem Rch.fit {P : List Int} {ls : Int} {m : Nat} (hls : ls = -1 ∨ ls = 0) (hm : ls + (m : Int) ≤ 4) {S : List Int} (hS : FitP P S) : ∀ {n : Nat} {F : List Int}, Rch P (stepsL ls m) S n F → FitP P F
  | 0, F, h => by rw [Rch] at h; subst h; exact hS
  | n + 1, G, ⟨F, x, h1, h2, h3⟩ => by
    rw [h3]
    have hs := mem_step h2
    exact (Rch.fit hls hm hS h1).after (by omega) (by omega) hs.2.2.2.2
end Go.Proofs.Ytlamppplnojpbaa
namespace Go.Proofs.Ytlamppplnojpbaa
open Go.RowKit Go.Shelf
attribute [local go_sem] Oper.semAt_some
/-! which amounts can be measured -/
theorem step_isin {ls : Int} {m : Nat} {f t : Int} (hf : ls ≤ f ∧ f < ls + (m : Int)) (ht : ls ≤ t ∧ t < ls + (m : Int)) (hne : f ≠ t) : (f, t) ∈ stepsL ls m := by
  unfold stepsL rowL
  rw [List.mem_flatMap]
  refine ⟨(f - ls).toNat, List.mem_range.2 (by omega), ?_⟩
  rw [List.mem_filter]
  refine ⟨List.mem_map.2 ⟨(t - ls).toNat, List.mem_range.2 (by omega), ?_⟩, by simpa using hne⟩
  rw [Prod.mk.injEq]; omega
def gcdF (zs : List Int) : Nat := zs.foldl (fun g x => Nat.gcd g x.toNat) 0
def maxF (zs : List Int) : Nat := zs.foldl (fun g x => max g x.toNat) 0
theorem fold_gcd_dvd : ∀ (zs : List Int) (g : Nat), zs.foldl (fun g x => Nat.gcd g x.toNat) g ∣ g ∧ ∀ z ∈ zs, zs.foldl (fun g x => Nat.gcd g x.toNat) g ∣ z.toNat
  | [], g => ⟨Nat.dvd_refl _, (fun z hz => by cases hz)⟩
  | x :: zs, g => by
    rw [List.foldl_cons]
    obtain ⟨h1, h2⟩ := fold_gcd_dvd zs (Nat.gcd g x.toNat)
    refine ⟨Nat.dvd_trans h1 (Nat.gcd_dvd_left _ _), fun z hz => ?_⟩
    rcases List.mem_cons.1 hz with rfl | hz
    · exact Nat.dvd_trans h1 (Nat.gcd_dvd_right _ _)
    · exact h2 z hz
theorem fold_max : ∀ (zs : List Int) (g : Nat), g ≤ zs.foldl (fun g x => max g x.toNat) g ∧ (∀ z ∈ zs, z.toNat ≤ zs.foldl (fun g x => max g x.toNat) g) ∧ (zs.foldl (fun g x => max g x.toNat) g = g ∨ ∃ z ∈ zs, zs.foldl (fun g x => max g x.toNat) g = z.toNat)
  | [], g => ⟨Nat.le_refl _, fun z hz => (by cases hz), .inl rfl⟩
  | x :: zs, g => by
    rw [List.foldl_cons]
    obtain ⟨h1, h2, h3⟩ := fold_max zs (max g x.toNat)
    refine ⟨by omega, fun z hz => ?_, ?_⟩
    · rcases List.mem_cons.1 hz with rfl | hz
      · omega
      · exact h2 z hz
    · rcases h3 with h3 | ⟨z, hz, h3⟩
      · rw [h3]
        by_cases h : g ≤ x.toNat
        · exact .inr ⟨x, List.mem_cons_self, by omega⟩
        · exact .inl (by omega)
      · exact .inr ⟨z, List.mem_cons_of_mem _ hz, h3⟩
theorem gcdF_snoc (zs : List Int) (x : Int) : gcdF (zs ++ [x]) = Nat.gcd (gcdF zs) x.toNat := by unfold gcdF; rw [List.foldl_append]; rfl
theorem maxF_snoc (zs : List Int) (x : Int) : maxF (zs ++ [x]) = max (maxF zs) x.toNat := by unfold maxF; rw [List.foldl_append]; rfl
/-! a set of rests by m that can go on by d -/
def Cl (R : Nat → Prop) (m d : Nat) : Prop := ∀ c, R (c % m) → R ((c + d) % m)
theorem Cl.zero (R : Nat → Prop) (m : Nat) : Cl R m 0 := fun _ h => h
theorem Cl.add {R : Nat → Prop} {m a b : Nat} (h : Cl R m a) (k : Cl R m b) : Cl R m (a + b) := fun c hc => by
  have := k (c + a) (h c hc)
  rwa [Nat.add_assoc] at this
theorem Cl.mul {R : Nat → Prop} {m a : Nat} (h : Cl R m a) : ∀ k : Nat, Cl R m (k * a)
  | 0 => by rw [Nat.zero_mul]; exact Cl.zero R m
  | k + 1 => by rw [Nat.succ_mul]; exact (Cl.mul h k).add h
theorem Cl.mod {R : Nat → Prop} {m g y : Nat} (hm : 1 ≤ m) (h : Cl R m g) (k : Cl R m y) : Cl R m (g % y) := fun c hc => by
  have h1 := (h.add (k.mul ((m - 1) * (g / y)))) c hc
  have e : c + (g + (m - 1) * (g / y) * y) = c + g % y + m * (g / y * y) := by
    have h2 := Nat.div_add_mod g y
    obtain ⟨m', rfl⟩ : ∃ m', m = m' + 1 := ⟨m - 1, by omega⟩
    rw [Nat.add_sub_cancel, Nat.succ_mul, Nat.mul_assoc]
    have h3 : y * (g / y) = g / y * y := Nat.mul_comm _ _
    omega
  rw [e, Nat.add_mul_mod_self_left] at h1
  exact h1
theorem Cl.gcd {R : Nat → Prop} {m : Nat} (hm : 1 ≤ m) : ∀ (n a b : Nat), a ≤ n → Cl R m a → Cl R m b → Cl R m (Nat.gcd a b)
  | n, 0, b, _, _, k => by rw [Nat.gcd_zero_left]; exact k
  | 0, a + 1, b, hn, _, _ => by omega
  | n + 1, a + 1, b, hn, h, k => by
    rw [Nat.gcd_rec]
    exact Cl.gcd hm n _ _ (by have := Nat.mod_lt b (show 0 < a + 1 by omega); omega) (k.mod hm h) h
theorem Cl.fold {R : Nat → Prop} {m : Nat} (hm : 1 ≤ m) : ∀ (zs : List Int) (g : Nat), Cl R m g → (∀ z ∈ zs, Cl R m z.toNat) → Cl R m (zs.foldl (fun g x => Nat.gcd g x.toNat) g)
  | [], g, h, _ => h
  | x :: zs, g, h, hz => by
    rw [List.foldl_cons]
    exact Cl.fold hm zs _ (Cl.gcd hm _ _ _ (Nat.le_refl _) h (hz x List.mem_cons_self)) (fun z h => hz z (List.mem_cons_of_mem _ h))
/-- one jug has c, the others are empty -/
def eF (M : Nat) (c : Int) : List Int := ([0, 0, 0, 0] : List Int).set M c
def RE (P : List Int) (ss : List (Int × Int)) (M : Nat) (c : Nat) : Prop := ∃ n, Rch P ss [0, 0, 0, 0] n (eF M (c : Int))
theorem ext4 {F G : List Int} (hF : F.length = 4) (hG : G.length = 4) (h : ∀ i, i < 4 → F.getD i 0 = G.getD i 0) : F = G := by
  apply List.ext_getElem (by omega)
  intro i h1 h2
  have := h i (by omega)
  simpa [List.getD, List.getElem?_eq_getElem h1, List.getElem?_eq_getElem h2] using this
theorem afterF_len (P F : List Int) (f t : Int) : (afterF P F f t).length = F.length := by
  unfold afterF; split
  · simp
  · split <;> simp
/-- the sea's steps and a step between jugs, told by the entries -/
theorem after_in (P F : List Int) (hF : F.length = 4) (b : Nat) (hb : b < 4) (i : Nat) : (afterF P F (-1) (b : Int)).getD i 0 = if i = b then P.getD b 0 else F.getD i 0 := by
  unfold afterF; rw [if_pos rfl, Int.toNat_natCast, set_getD _ _ _ _ (by omega)]
theorem after_out (P F : List Int) (hF : F.length = 4) (a : Nat) (ha : a < 4) (i : Nat) : (afterF P F (a : Int) (-1)).getD i 0 = if i = a then 0 else F.getD i 0 := by
  unfold afterF; rw [if_neg (by omega), if_pos rfl, Int.toNat_natCast, set_getD _ _ _ _ (by omega)]
theorem after_mid (P F : List Int) (hF : F.length = 4) (a b : Nat) (ha : a < 4) (hb : b < 4) (i : Nat) : (afterF P F (a : Int) (b : Int)).getD i 0 = if i = b then F.getD b 0 + min (F.getD a 0) (P.getD b 0 - F.getD b 0) else if i = a then F.getD a 0 - min (F.getD a 0) (P.getD b 0 - F.getD b 0) else F.getD i 0 := by
  unfold afterF; rw [if_neg (by omega), if_neg (by omega), Int.toNat_natCast, Int.toNat_natCast, set_getD _ _ _ _ (by rw [List.length_set]; omega), set_getD _ _ _ _ (by omega)]
theorem eF_len (M : Nat) (c : Int) : (eF M c).length = 4 := by unfold eF; rw [List.length_set]; rfl
theorem eF_get (M : Nat) (hM : M < 4) (c : Int) (i : Nat) : (eF M c).getD i 0 = if i = M then c else 0 := by
  unfold eF
  rw [set_getD _ _ _ _ (by simpa using hM)]
  have : ([0, 0, 0, 0] : List Int).getD i 0 = 0 := by
    match i with
    | 0 => rfl
    | 1 => rfl
    | 2 => rfl
    | 3 => rfl
    | n + 4 => rfl
  rw [this]
theorem re_step {P : List Int} {n : Nat} (hn : n ≤ 4) {M i : Nat} (hM : M < n) (hi : i < n) (hne : i ≠ M) {m a : Nat} (hm : P.getD M 0 = (m : Int)) (ha : P.getD i 0 = (a : Int)) (ham : a ≤ m) {c : Nat} (hc : c < m) (h : RE P (stepsL (-1) (n + 1)) M c) :
    RE P (stepsL (-1) (n + 1)) M ((c + a) % m) := by
  obtain ⟨k, h⟩ := h
  have s1 : ((-1 : Int), (i : Int)) ∈ stepsL (-1) (n + 1) := step_isin (by omega) (by omega) (by omega)
  have s2 : ((i : Int), (M : Int)) ∈ stepsL (-1) (n + 1) := step_isin (by omega) (by omega) (by omega)
  have s3 : ((M : Int), (-1 : Int)) ∈ stepsL (-1) (n + 1) := step_isin (by omega) (by omega) (by omega)
  have g0 : ∀ j, (eF M (c : Int)).getD j 0 = if j = M then (c : Int) else 0 := eF_get M (by omega) _
  obtain ⟨X1, hX1⟩ : ∃ X, X = afterF P (eF M (c : Int)) (-1) (i : Int) := ⟨_, rfl⟩
  have l1 : X1.length = 4 := by rw [hX1, afterF_len, eF_len]
  have g1 : ∀ j, X1.getD j 0 = if j = i then (a : Int) else if j = M then (c : Int) else 0 := fun j => by
    rw [hX1, after_in _ _ (eF_len _ _) _ (by omega), g0, ha]
  have r1 : Rch P (stepsL (-1) (n + 1)) [0, 0, 0, 0] (k + 1) X1 := ⟨_, _, h, s1, hX1⟩
  obtain ⟨X2, hX2⟩ : ∃ X, X = afterF P X1 (i : Int) (M : Int) := ⟨_, rfl⟩
  have l2 : X2.length = 4 := by rw [hX2, afterF_len, l1]
  have g2 : ∀ j, X2.getD j 0 = if j = M then (c : Int) + min (a : Int) ((m : Int) - (c : Int)) else if j = i then (a : Int) - min (a : Int) ((m : Int) - (c : Int)) else 0 := fun j => by
    have gM : X1.getD M 0 = (c : Int) := by rw [g1, if_neg (fun e => hne e.symm), if_pos rfl]
    have gi : X1.getD i 0 = (a : Int) := by rw [g1, if_pos rfl]
    rw [hX2, after_mid _ _ l1 _ _ (by omega) (by omega), gM, gi, g1 j, hm]
    by_cases h1 : j = M
    · simp only [h1, if_true]
    · simp only [h1, if_false]
      by_cases h2 : j = i
      · simp only [h2, if_true]
      · simp only [h2, if_false]
  have r2 : Rch P (stepsL (-1) (n + 1)) [0, 0, 0, 0] (k + 1 + 1) X2 := ⟨_, _, r1, s2, hX2⟩
  by_cases hle : a ≤ m - c
  · by_cases hlt : c + a < m
    · refine ⟨_, (?_ : eF M (((c + a) % m : Nat) : Int) = X2) ▸ r2⟩
      rw [Nat.mod_eq_of_lt hlt]
      refine ext4 (eF_len _ _) l2 fun j hj => ?_
      rw [g2, eF_get _ (by omega)]
      split
      · omega
      · split <;> omega
    · obtain ⟨X3, hX3⟩ : ∃ X, X = afterF P X2 (M : Int) (-1) := ⟨_, rfl⟩
      have r3 : Rch P (stepsL (-1) (n + 1)) [0, 0, 0, 0] (k + 1 + 1 + 1) X3 := ⟨_, _, r2, s3, hX3⟩
      refine ⟨_, (?_ : eF M (((c + a) % m : Nat) : Int) = X3) ▸ r3⟩
      rw [show c + a = m by omega, Nat.mod_self]
      refine ext4 (eF_len _ _) (by rw [hX3, afterF_len, l2]) fun j hj => ?_
      rw [hX3, after_out _ _ l2 _ (by omega), g2, eF_get _ (by omega)]
      split
      · rfl
      · split <;> omega
  · obtain ⟨X3, hX3⟩ : ∃ X, X = afterF P X2 (M : Int) (-1) := ⟨_, rfl⟩
    have r3 : Rch P (stepsL (-1) (n + 1)) [0, 0, 0, 0] (k + 1 + 1 + 1) X3 := ⟨_, _, r2, s3, hX3⟩
    have l3 : X3.length = 4 := by rw [hX3, afterF_len, l2]
    have g3 : ∀ j, X3.getD j 0 = if j = M then 0 else if j = i then (a : Int) - ((m : Int) - (c : Int)) else 0 := fun j => by
      rw [hX3, after_out _ _ l2 _ (by omega), g2]
      by_cases h1 : j = M
      · rw [if_pos h1, if_pos h1]
      · rw [if_neg h1, if_neg h1, if_neg h1]
        split <;> omega
    obtain ⟨X4, hX4⟩ : ∃ X, X = afterF P X3 (i : Int) (M : Int) := ⟨_, rfl⟩
    have r4 : Rch P (stepsL (-1) (n + 1)) [0, 0, 0, 0] (k + 1 + 1 + 1 + 1) X4 := ⟨_, _, r3, s2, hX4⟩
    refine ⟨_, (?_ : eF M (((c + a) % m : Nat) : Int) = X4) ▸ r4⟩
    have e : (c + a) % m = c + a - m := by rw [Nat.mod_eq_sub_mod (by omega), Nat.mod_eq_of_lt (by omega)]
    rw [e]
    refine ext4 (eF_len _ _) (by rw [hX4, afterF_len, l3]) fun j hj => ?_
    have gM : X3.getD M 0 = 0 := by rw [g3, if_pos rfl]
    have gi : X3.getD i 0 = (a : Int) - ((m : Int) - (c : Int)) := by rw [g3, if_neg hne, if_pos rfl]
    rw [hX4, after_mid _ _ l3 _ _ (by omega) (by omega), gM, gi, g3 j, hm, eF_get _ (by omega)]
    split
    · omega
    · split <;> omega
theorem mem_getD {l : List Int} {n : Nat} {x : Int} (h : x ∈ l.take n) : ∃ i, i < n ∧ i < l.length ∧ l.getD i 0 = x := by
  obtain ⟨i, hi, rfl⟩ := List.getElem_of_mem h
  rw [List.length_take] at hi
  exact ⟨i, by omega, by omega, by rw [List.getElem_take, getD_lt (by omega)]⟩
theorem getD_mem {l : List Int} {n i : Nat} (h1 : i < n) (h2 : i < l.length) : l.getD i 0 ∈ l.take n := by
  rw [getD_lt h2]
  have : (l.take n)[i]'(by rw [List.length_take]; omega) = l[i] := List.getElem_take
  rw [← this]; exact List.getElem_mem _
/-- what is reached from empty jugs is a multiple of what divides all sizes -/
theorem rch_dvd {P : List Int} {ls : Int} {m : Nat} (hls : ls = -1 ∨ ls = 0) (hm : ls + (m : Int) ≤ 4) {g : Int} (hg : ∀ i, i < 4 → g ∣ P.getD i 0) : ∀ {n : Nat} {F : List Int}, Rch P (stepsL ls m) [0, 0, 0, 0] n F → F.length = 4 ∧ ∀ i, i < 4 → g ∣ F.getD i 0
  | 0, F, h => by
    rw [Rch] at h; subst h
    refine ⟨rfl, fun i hi => ?_⟩
    have : ([0, 0, 0, 0] : List Int).getD i 0 = 0 := by
      match i, hi with
      | 0, _ => rfl
      | 1, _ => rfl
      | 2, _ => rfl
      | 3, _ => rfl
    rw [this]; exact Int.dvd_zero _
  | n + 1, G, ⟨F, (f, t), h1, h2, h3⟩ => by
    obtain ⟨hl, hd⟩ := rch_dvd hls hm hg h1
    have hs := mem_step h2
    dsimp only at hs h3
    subst h3
    refine ⟨by rw [afterF_len, hl], fun i hi => ?_⟩
    by_cases hf : f = -1
    · subst hf
      obtain ⟨t', rfl⟩ : ∃ t' : Nat, t = (t' : Int) := ⟨t.toNat, by omega⟩
      rw [after_in _ _ hl _ (by omega)]
      split
      · exact hg _ (by omega)
      · exact hd i hi
    · obtain ⟨f', rfl⟩ : ∃ f' : Nat, f = (f' : Int) := ⟨f.toNat, by omega⟩
      by_cases ht : t = -1
      · subst ht
        rw [after_out _ _ hl _ (by omega)]
        split
        · exact Int.dvd_zero _
        · exact hd i hi
      · obtain ⟨t', rfl⟩ : ∃ t' : Nat, t = (t' : Int) := ⟨t.toNat, by omega⟩
        have k1 := hd f' (by omega)
        have k2 := hd t' (by omega)
        have k3 := hg t' (by omega)
        have k4 : g ∣ min (F.getD f' 0) (P.getD t' 0 - F.getD t' 0) := by
          rcases Int.le_total (F.getD f' 0) (P.getD t' 0 - F.getD t' 0) with h | h
          · rw [Int.min_eq_left h]; exact k1
          · rw [Int.min_eq_right h]; exact Int.dvd_sub k3 k2
        rw [after_mid _ _ hl _ _ (by omega) (by omega)]
        split
        · exact Int.dvd_add k2 k4
        · split
          · exact Int.dvd_sub k1 k4
          · exact hd i hi
theorem mult_list : ∀ g, g < 13 → ∀ m, m < 13 → 1 ≤ g → (List.range 13).filter (fun i => decide (i % g = 0 ∧ i ≤ m)) = (List.range (m / g + 1)).map (fun i => i * g) := by decide +kernel
def multL (ss : List Int) : List Int := (List.range (maxF ss / gcdF ss + 1)).map fun i => ((i * gcdF ss : Nat) : Int)
theorem ss_facts {ss : List Int} (hj : jugsB ss = true) : (1 ≤ gcdF ss ∧ gcdF ss ≤ 12) ∧ (1 ≤ maxF ss ∧ maxF ss ≤ 12) ∧ gcdF ss ∣ maxF ss ∧ (∀ i, i < ss.length → (gcdF ss : Int) ∣ ss.getD i 0 ∧ 1 ≤ ss.getD i 0 ∧ ss.getD i 0 ≤ (maxF ss : Int)) ∧ ∃ M, M < ss.length ∧ ss.getD M 0 = (maxF ss : Int) := by
  obtain ⟨h1, h4⟩ := jugsB_len hj
  have hz : ∀ z ∈ ss, 1 ≤ z ∧ z ≤ 12 := fun z h => jugsB_in hj h
  obtain ⟨a1, a2⟩ := fold_gcd_dvd ss 0
  obtain ⟨b1, b2, b3⟩ := fold_max ss 0
  have hx := List.getElem_mem (show 0 < ss.length by omega)
  have c1 := a2 _ hx
  have c2 := b2 _ hx
  have c3 := hz _ hx
  have hm : ∃ z ∈ ss, maxF ss = z.toNat := by
    rcases b3 with h | ⟨z, hz, h⟩
    · rw [h] at c2; omega
    · exact ⟨z, hz, h⟩
  obtain ⟨z, hzm, hze⟩ := hm
  have hzb := hz z hzm
  have gpos : 1 ≤ gcdF ss := by
    rcases Nat.eq_zero_or_pos (gcdF ss) with h | h
    · unfold gcdF at h; rw [h] at c1
      have := Nat.eq_zero_of_zero_dvd c1
      omega
    · exact h
  have gle : gcdF ss ≤ 12 := by
    have := Nat.le_of_dvd (by omega) c1
    unfold gcdF; omega
  refine ⟨⟨gpos, gle⟩, by omega, by rw [hze]; exact a2 z hzm, fun i hi => ?_, ?_⟩
  · rw [getD_lt hi]
    have hm := List.getElem_mem hi
    have d1 := a2 _ hm
    have d2 := b2 _ hm
    have d3 := hz _ hm
    refine ⟨?_, d3.1, ?_⟩
    · have : (gcdF ss : Int) ∣ ((ss[i].toNat : Nat) : Int) := Int.natCast_dvd_natCast.2 d1
      rwa [Int.toNat_of_nonneg (by omega)] at this
    · unfold maxF; omega
  · obtain ⟨M, hM, rfl⟩ := List.getElem_of_mem hzm
    exact ⟨M, hM, by rw [getD_lt hM]; omega⟩
theorem mult_reached {ss : List Int} (hj : jugsB ss = true) (k : Nat) (hk : k % gcdF ss = 0) (hkm : k ≤ maxF ss) : ∃ M, M < ss.length ∧ RE (padF ss) (stepsL (-1) (ss.length + 1)) M k := by
  obtain ⟨h1, h4⟩ := jugsB_len hj
  obtain ⟨hg, hm, hgm, hall, M, hM, hMe⟩ := ss_facts hj
  refine ⟨M, hM, ?_⟩
  have e0 : RE (padF ss) (stepsL (-1) (ss.length + 1)) M 0 := ⟨0, by rw [Rch]; exact ext4 (eF_len _ _) rfl (fun i hi => by
    rw [eF_get _ (by omega)]
    match i, hi with
    | 0, _ => simp
    | 1, _ => simp
    | 2, _ => simp
    | 3, _ => simp)⟩
  have hcl : ∀ z ∈ ss, Cl (RE (padF ss) (stepsL (-1) (ss.length + 1)) M) (maxF ss) z.toNat := fun z hz c hc => by
    obtain ⟨i, hi, rfl⟩ := List.getElem_of_mem hz
    have hb := hall i hi
    rw [getD_lt hi] at hb
    by_cases hiM : i = M
    · subst hiM
      rw [getD_lt hi] at hMe
      rw [hMe, Int.toNat_natCast, Nat.add_mod_right]; exact hc
    · have := re_step (P := padF ss) h4 hM hi hiM (m := maxF ss) (a := ss[i].toNat) (by rw [padF_getD _ _ (by omega)]; exact hMe) (by rw [padF_getD _ _ (by omega), getD_lt hi]; omega) (by omega) (Nat.mod_lt c (by omega)) hc
      rwa [Nat.mod_add_mod] at this
  have hg : Cl (RE (padF ss) (stepsL (-1) (ss.length + 1)) M) (maxF ss) (gcdF ss) := Cl.fold (by omega) ss 0 (Cl.zero _ _) hcl
  rcases Nat.lt_or_ge k (maxF ss) with hlt | hge
  · have := hg.mul (k / gcdF ss) 0 (by rw [Nat.zero_mod]; exact e0)
    have e : k / gcdF ss * gcdF ss = k := Nat.div_mul_cancel (Nat.dvd_of_mod_eq_zero hk)
    rw [e, Nat.zero_add, Nat.mod_eq_of_lt hlt] at this
    exact this
  · obtain rfl : k = maxF ss := by omega
    obtain ⟨n, h0⟩ := e0
    refine ⟨n + 1, _, (-1, (M : Int)), h0, step_isin (by omega) (by omega) (by omega), ?_⟩
    refine ext4 (eF_len _ _) (by rw [afterF_len, eF_len]) fun j hj => ?_
    rw [after_in _ _ (eF_len _ _) _ (by omega), eF_get _ (by omega), eF_get _ (by omega), padF_getD _ _ (by omega), hMe]
    split
    · rfl
    · simp
theorem amounts_mult {ss : List Int} (hj : jugsB ss = true) {res : Sn × Option (List Int)} (hres : srch (padF ss) glN (ssF false ss.length) 28562 (padF []) = some res) : amtL res.1 ss.length 13 = multL ss := by
  obtain ⟨h1, h4⟩ := jugsB_len hj
  obtain ⟨hg, hm, hgm, hall, _⟩ := ss_facts hj
  have e0 : padF [] = [0, 0, 0, 0] := rfl
  rw [e0] at hres
  have hss : ssF false ss.length = stepsL (-1) (ss.length + 1) := rfl
  rw [hss] at hres
  have hL := srch_least _ _ _ _ _ _ hres
  have hfit0 : FitP (padF ss) [0, 0, 0, 0] := ⟨rfl, fun i hi => by
    have : ([0, 0, 0, 0] : List Int).getD i 0 = 0 := by
      match i, hi with
      | 0, _ => rfl
      | 1, _ => rfl
      | 2, _ => rfl
      | 3, _ => rfl
    rw [this, padF_getD _ _ hi]
    by_cases h : i < ss.length
    · have := hall i h; omega
    · rw [List.getD_eq_getElem?_getD, List.getElem?_eq_none (by omega)]; simp⟩
  obtain ⟨ht, hs, hf⟩ := srch_tree (padF ss) glN (-1) (ss.length + 1) (.inl rfl) (by omega) [0, 0, 0, 0] hfit0 28562 res hres
  have hnone : res.2 = none := by
    rcases h : res.2 with _ | g
    · rfl
    · have := (hf g h).2; simp [glN] at this
  have hP : ∀ i, i < 4 → (gcdF ss : Int) ∣ (padF ss).getD i 0 := fun i hi => by
    rw [padF_getD _ _ hi]
    by_cases h : i < ss.length
    · exact (hall i h).1
    · rw [List.getD_eq_getElem?_getD, List.getElem?_eq_none (by omega)]; simp
  have key : ∀ i, amtB res.1 ss.length i = decide (i % gcdF ss = 0 ∧ i ≤ maxF ss) := fun i => by
    rw [Bool.eq_iff_iff, decide_eq_true_eq]
    unfold amtB
    rw [List.any_eq_true]
    constructor
    · rintro ⟨p, hp, hd⟩
      have hd := of_decide_eq_true hd
      obtain ⟨j, hj1, hj2, hj3⟩ := mem_getD hd
      obtain ⟨c, hc⟩ := Option.isSome_iff_exists.1 (lookA_key res.1 p.1 (List.mem_map.2 ⟨p, hp, rfl⟩))
      have hr := ht.rch hc
      have hdv := (rch_dvd (.inl rfl) (by omega) hP hr).2 j (by omega)
      have hft := ((ht.fit hc).1).2 j (by omega)
      rw [padF_getD _ _ (by omega)] at hft
      have hle := hall j hj1
      rw [hj3] at hdv hft
      exact ⟨Nat.mod_eq_zero_of_dvd (Int.natCast_dvd_natCast.1 hdv), by omega⟩
    · rintro ⟨a1, a2⟩
      obtain ⟨M, hM, n, hr⟩ := mult_reached hj i a1 a2
      obtain ⟨c, hc, _⟩ := (hL.non hnone).1 n _ hr
      refine ⟨_, lookA_mem _ _ _ hc, decide_eq_true ?_⟩
      dsimp only
      have : (eF M (i : Int)).getD M 0 = (i : Int) := by rw [eF_get _ (by omega), if_pos rfl]
      rw [← this]
      rw [this]
      have h := getD_mem (l := eF M (i : Int)) hM (by rw [eF_len]; omega)
      rw [this] at h
      exact h
  unfold amtL multL
  have e : (List.range 13).filter (amtB res.1 ss.length) = (List.range 13).filter (fun i => decide (i % gcdF ss = 0 ∧ i ≤ maxF ss)) := by
    congr 1; funext i; exact key i
  rw [e, mult_list _ (by omega) _ (by omega) hg.1, List.map_map]
  rfl
end Go.Proofs.Ytlamppplnojpbaa
