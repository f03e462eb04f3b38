import Derived.Test.YtbhlddfjfcmncaaYk
import Derived.Test.YtbhlddfjfcmncaaYb
import Derived.Maps.OwnIn
import Derived.Maps.OwnSet
import Derived.RangeFuncNested
import Derived.RangeFuncBound
import Derived.RangeFuncCalls
import Derived.RangeFuncLeaves
import Derived.Shelf.Abstract
import Derived.Shelf.RegionOpen
import Derived.WalkKit
import Derived.OwnWalkIn
import Derived.TacticsInMore
import Derived.LoopNIn
import Derived.LoopIn
import Derived.WalkSpells
import Derived.WalkLawsBesides
import Derived.BigQuiet
import Derived.Deep.QuietTactic
import Derived.Lib.Hide
import Derived.Deep.RegionHeld3
import Derived.StillTailTactics
import Derived.Lib.MakeNoZero
import Derived.Laws.CopyOwn
import Derived.Deep.RegionLaw
import Derived.Deep.LoopGhost
import Derived.Deep.CutBlock
import Derived.Deep.DeepCutAuto
import Derived.Lib.IndexAny
namespace Go.Proofs.Ytbhlddfjfcmncaa
open Go.RowKit Go.Shelf
attribute [local go_sem] Oper.semAt_some
/-- bools in a block -/
def AtBo (w : World) (b o : Nat) (l : List Bool) : Prop := ∀ i (h : i < l.length), w.cell? ⟨b, o + i, none⟩ = some (.bool l[i])
theorem AtBo.below {B : Nat} {w w' : World} {b o : Nat} {l : List Bool} (h : AtBo w b o l) (hb : Below B w w') (hg : b < B) : AtBo w' b o l := fun i hi => below_at hb hg (h i hi)
theorem AtBo.take {w : World} {b o : Nat} {l : List Bool} (h : AtBo w b o l) (n : Nat) : AtBo w b o (l.take n) := fun i hi => by
  rw [List.length_take] at hi
  rw [h i (by omega)]; simp
theorem AtBo.drop {w : World} {b o : Nat} {l : List Bool} (h : AtBo w b o l) (n : Nat) : AtBo w b (o + n) (l.drop n) := fun i hi => by
  rw [List.length_drop] at hi
  rw [Nat.add_assoc, h (n + i) (by omega)]; simp
theorem textL_succ (l : List Bool) (k : Nat) (h : k < l.length) : textL (l.take (k + 1)) = textL (l.take k) ++ [markU l[k]] := by
  unfold textL; rw [List.take_succ_eq_append_getElem h, List.map_append]; rfl
theorem toS_app (l : List UInt8) (c : UInt8) : toS l ++ { data := #[c] } = toS (l ++ [c]) := by
  apply ByteArray.ext
  show _ = (l ++ [c]).toArray
  rw [ByteArray.data_append]
  unfold toS; simp
set_option maxRecDepth 100000 in
set_option maxHeartbeats 1000000 in
theorem refText_any (b o n c : Nat) (l : List Bool) (w : World) (hn : l.length = n) (hl : n ≤ 1000000) (hat : AtBo w b o l) :
    Calls Try.prog 99 #[.slice (some ⟨b, o, none⟩) n c] w fun e w' => e = .returned (.string (toS (textL l))) ∧ w' = w := by
  have H1 := Lib.hid hat
  have N1 := Lib.hid hn
  clear hat hn
  go_enter Try.func99, Try.ntmps99
  go_wp2_with fail
  go_loopw [3, 4] (fun s i wr => ∃ k : Nat, k ≤ n ∧ i = .int .i64 k ∧ s = .string (toS (textL (l.take k))) ∧ wr = w) (fun _ i _ => n - (intOf i).toNat)
  case atStart => exact ⟨0, Nat.zero_le _, rfl, rfl, rfl⟩
  case round =>
    obtain ⟨k, hk, rfl, rfl, rfl⟩ := hrel
    by_cases hlt : k < n
    · have L1 : k < l.length := by rw [N1.out]; exact hlt
      have a1 := H1.out k L1
      have S := Lib.hid (textL_succ l k L1)
      have A := fun c => Lib.hid (toS_app (textL (l.take k)) c)
      have hz : (toS (textL (l.take k))).size = k := by rw [toS_size]; unfold textL; rw [List.length_map, List.length_take]; omega
      generalize toS (textL (l.take k)) = S0 at *
      cases hv : l[k]
      all_goals
        rw [hv] at a1 S
        have SS := Lib.hid S
        have AA := Lib.hid A
        clear S A
        go_wp2_with fail
        go_roundw
        case rel => exact ⟨k + 1, by omega, rfl, by rw [SS.out.out, (AA.out _).out]; rfl, trivial⟩
        case measure => simp [intOf]; omega
    · have HE : Hid (toS (textL (l.take k)) = toS (textL l)) := Lib.hid (by rw [List.take_of_length_le (by rw [N1.out]; omega)])
      go_wp2_with fail
      go_ret
      refine ⟨?_, rfl⟩
      show Ending.returned (.string (toS (textL (l.take k)))) = _
      rw [HE.out]
theorem sizeBo (w : World) : (Go.sizeOf 4).run Try.prog w = .ok 1 w := by kernel_rfl
theorem slice_to_bo (b o n c k : Nat) (hk : k ≤ c) (w : World) :
    (Instr.slice 78 (.slice (some ⟨b, o, none⟩) n c) none (some (.int .i64 (k : Int))) none).run Try.prog w = .ok (.slice (some ⟨b, o, none⟩) k c) w := by
  have ht : Try.prog.underlying 78 = some (.slice (Try.prog.elem 78)) := by simp [Program.elem, Try.underlying78]
  have he : Try.prog.elem 78 = 4 := by simp [Program.elem, Try.underlying78]
  rw [run_slice_h w 78 _ _ _ ht .i64 _ (by omega) (by omega), he, sizeBo]
  by_cases h0 : c = 0
  · simp [Result.andThen, sliced, h0]
  · simp [Result.andThen, sliced, Addr.add, h0]
theorem slice_mid_bo (b o n c k m : Nat) (hk : k < m) (hm : m ≤ c) (w : World) :
    (Instr.slice 78 (.slice (some ⟨b, o, none⟩) n c) (some (.int .i64 (k : Int))) (some (.int .i64 (m : Int))) none).run Try.prog w = .ok (.slice (some ⟨b, o + k, none⟩) (m - k) (c - k)) w := by
  have ht : Try.prog.underlying 78 = some (.slice (Try.prog.elem 78)) := by simp [Program.elem, Try.underlying78]
  have he : Try.prog.elem 78 = 4 := by simp [Program.elem, Try.underlying78]
  rw [run_slice_lh w 78 _ _ _ ht .i64 .i64 _ _ (by omega) (by omega) (by omega), he, sizeBo]
  have hne : ¬ c = k := by omega
  by_cases h0 : k = 0
  · subst h0; simp [Result.andThen, sliced, Addr.add, hne]
  · simp [Result.andThen, sliced, Addr.add, hne, h0]
/-- what the reference makes of hours -/
def formedV (h : List Bool) : Value := match formedO h with
  | some (K, D) => .tuple #[.agg #[.string (toS (textL (h.take K))), .string (toS (textL ((h.drop K).take D)))], .bool true]
  | none => .tuple #[.agg #[.string { data := #[] }, .string { data := #[] }], .bool false]
theorem backB_step {l : List Bool} {d k : Nat} {v : Bool} (hk : 1 ≤ k) (h1 : k - 1 < l.length) (h2 : k - 1 + d < l.length) (h : (l[k - 1] == l[k - 1 + d]) = v) :
    backB l d k = if v then backB l d (k - 1) else k := by
  obtain ⟨j, rfl⟩ : ∃ j, k = j + 1 := ⟨k - 1, by omega⟩
  simp only [Nat.add_sub_cancel] at h1 h2 h ⊢
  have e1 : l[j]?.getD false = l[j] := by simp [h1]
  have e2 : l[j + d]?.getD false = l[j + d] := by simp [h2]
  rw [backB, e1, e2, h]
set_option maxRecDepth 100000 in
set_option maxHeartbeats 1000000 in
theorem refFormed_any (b n c : Nat) (l : List Bool) (w : World) (hn : l.length = n) (hn1 : 100 ≤ n) (hl : n ≤ 1000000) (hc : n ≤ c) (hat : AtBo w b 0 l) (hb : b < w.heap.size) :
    Calls Try.prog 84 #[.slice (some ⟨b, 0, none⟩) n c] w fun e w' => e = .returned (formedV l) ∧ Below w.heap.size w w' := by
  have H1 := Lib.hid hat
  have N1 := Lib.hid hn
  clear hat hn
  go_enter Try.func84, Try.ntmps84
  go_wp2_with fail
  obtain ⟨W0, hW0⟩ : ∃ W0, W0 = w.alloc (.cells #[.string { data := #[] }, .string { data := #[] }] 24) := ⟨_, rfl⟩
  have B0 : Hid (Below w.heap.size w W0) := Lib.hid (by rw [hW0]; exact (Below.refl _ _).alloc (Nat.le_refl _) _)
  have d0 : W0.cell? ⟨w.heap.size, 0, none⟩ = some (.string { data := #[] }) := by rw [hW0]; simp [cell_al]
  have d1 : W0.cell? ⟨w.heap.size, 1, none⟩ = some (.string { data := #[] }) := by rw [hW0]; simp [cell_al]
  have d2 : W0.frozen? ⟨w.heap.size, 0, none⟩ = false := by rw [hW0]; simp [frozen_al]
  have d3 : W0.frozen? ⟨w.heap.size, 1, none⟩ = false := by rw [hW0]; simp [frozen_al]
  have A0 : Hid (AtBo W0 b 0 l) := Lib.hid (H1.out.below B0.out hb)
  rw [← hW0]
  have ltW : Hid (w.heap.size < W0.heap.size) := Lib.hid (by rw [hW0]; simp)
  have D0 := Lib.hid (And.intro d0 (And.intro d1 (And.intro d2 d3)))
  clear hW0 d0 d1 d2 d3 H1
  go_loopw [4, 5] (fun i _ wr => ∃ d : Nat, 1 ≤ d ∧ d ≤ 61 ∧ i = .int .i64 d ∧ Hid (formedO l = formedFrom l (61 - d) d) ∧ Hid (∃ q, wr = W0.drewN q)) (fun i _ _ => 61 - (intOf i).toNat)
  case atStart => exact ⟨1, by omega, by omega, rfl, Lib.hid rfl, Lib.hid ⟨0, rfl⟩⟩
  case round =>
    obtain ⟨d, hd1, hd2, rfl, hf, hw⟩ := hrel
    by_cases hlt : d ≤ 60
    · have t1 : decide ((d : Int) ≤ 60) = true := decide_eq_true (by omega)
      have e1 : ((n : Int) - (d : Int)) = ((n - d : Nat) : Int) := by omega
      obtain ⟨m, hm⟩ : ∃ m, m = n - d := ⟨_, rfl⟩
      rw [← hm] at e1
      have HM := Lib.hid hm
      clear hm
      go_wp2_with fail
      go_loopw [5] (fun i wx => ∃ k : Nat, k ≤ m ∧ i = .int .i64 k ∧ Hid (backB l d k = backB l d m) ∧ Hid (∃ q, wx = W0.drewN q)) (fun i _ => (intOf i).toNat)
      case atStart => exact ⟨m, Nat.le_refl _, rfl, Lib.hid rfl, hw⟩
      case round =>
        clear hw
        obtain ⟨k, hk, rfl, hK, hw⟩ := hrel
        have A1 : Hid (AtBo wr b 0 l) := Lib.hid (by obtain ⟨q, rfl⟩ := hw.out; exact A0.out.below (below_drewN (Below.refl _ _) q) (Nat.lt_of_lt_of_le hb B0.out.size))
        by_cases hz : k = 0
        · have t2 : decide (0 < k) = false := by simp [hz]
          have HKK : Hid (backB l d k = k) := Lib.hid (by rw [hz]; rfl)
          have hk60 : Hid (¬ 60 < k) := Lib.hid (by omega)
          clear hz
          go_wp2_with fail
          go_quiet (fail)
          obtain ⟨wq, hwq⟩ : ∃ wq, wq = wr.drewN nq := ⟨_, rfl⟩
          rw [← hwq]
          have BQ : Hid (Below W0.heap.size W0 wq) := Lib.hid (by obtain ⟨q, rfl⟩ := hw.out; rw [hwq]; exact below_drewN (below_drewN (Below.refl _ _) q) nq)
          have WQ : Hid (∃ q, wq = W0.drewN q) := Lib.hid (by obtain ⟨q, rfl⟩ := hw.out; rw [hwq]; exact ⟨_, drewN_drewN _ _ _⟩)
          have KF : Hid (backB l d (l.length - d) = k) := Lib.hid (by rw [N1.out, ← HM.out, ← hK.out]; exact HKK.out)
          have HF : Hid (formedO l = if 60 < k then (if k < n / 2 then none else formedFrom l (61 - (d + 1)) (d + 1)) else some (k, d)) := Lib.hid (by
            rw [hf.out, show 61 - d = (61 - (d + 1)) + 1 by omega, formedFrom, KF.out, N1.out])
          clear hwq hw hK A1 HKK
          have h60 : ¬ 60 < k := hk60.out
          have t6 : decide ((60 : Int) < (k : Int)) = false := decide_eq_false (by omega)
          have E : Hid (formedV l = .tuple #[.agg #[.string (toS (textL (l.take k))), .string (toS (textL ((l.drop k).take d)))], .bool true]) := Lib.hid (by unfold formedV; rw [HF.out, if_neg h60])
          have A2 : Hid (AtBo wq b 0 l) := Lib.hid (A0.out.below BQ.out (Nat.lt_of_lt_of_le hb B0.out.size))
          have XX : Hid (∀ (o n' c' : Nat), o + n' ≤ n → Calls Try.prog 99 #[.slice (some ⟨b, o, none⟩) n' c'] wq.drew fun e w' => e = .returned (.string (toS (textL ((l.drop o).take n')))) ∧ w' = wq.drew) := Lib.hid (fun o n' c' h => by
            have h0 : AtBo wq.drew b 0 l := A2.out
            have := refText_any b (0 + o) n' c' ((l.drop o).take n') wq.drew (by rw [List.length_take, List.length_drop, N1.out]; omega) (by omega) ((h0.drop o).take n')
            rwa [Nat.zero_add] at this)
          have kd : k + d ≤ n := by have := HM.out; omega
          have kn : k ≤ n := by omega
          have kn0 : 0 + k ≤ n := by omega
          have i7 : (0 : Int) ≤ (k : Int) := by omega
          have i8 : (k : Int) ≤ (k : Int) + (d : Int) := by omega
          have i9 : (k : Int) + (d : Int) ≤ (c : Int) := by omega
          have i10 : (k : Int) ≤ (c : Int) := by omega
          obtain ⟨d0, d1, d2, d3⟩ := D0.out
          have z0 : wq.cell? ⟨w.heap.size, 0, none⟩ = some (.string { data := #[] }) := below_at BQ.out ltW.out d0
          have z1 : wq.cell? ⟨w.heap.size, 1, none⟩ = some (.string { data := #[] }) := below_at BQ.out ltW.out d1
          have z2 : wq.frozen? ⟨w.heap.size, 0, none⟩ = false := (BQ.out.frozen (p := ⟨w.heap.size, 0, none⟩) ltW.out).trans d2
          have z3 : wq.frozen? ⟨w.heap.size, 1, none⟩ = false := (BQ.out.frozen (p := ⟨w.heap.size, 1, none⟩) ltW.out).trans d3
          clear d0 d1 d2 d3
          have s1 := fun w => slice_to_bo b 0 n c k (by omega) w
          have s2 : ∀ w, (Instr.slice 78 (.slice (some ⟨b, 0, none⟩) n c) (some (.int .i64 (k : Int))) (some (.int .i64 ((k : Int) + (d : Int)))) none).run Try.prog w = .ok (.slice (some ⟨b, k, none⟩) d (c - k)) w := fun w => by
            have := slice_mid_bo b 0 n c k (k + d) (by omega) (by omega) w
            rw [show k + d - k = d by omega, Nat.zero_add, show ((k + d : Nat) : Int) = (k : Int) + (d : Int) by omega] at this; exact this
          have XA := XX.out 0 k c kn0
          have XB := XX.out k d (c - k) kd
          rw [List.drop_zero] at XA
          obtain ⟨SF, hSF⟩ : ∃ SF, SF = toS (textL (l.take k)) := ⟨_, rfl⟩
          obtain ⟨SR, hSR⟩ : ∃ SR, SR = toS (textL ((l.drop k).take d)) := ⟨_, rfl⟩
          rw [← hSF] at XA
          rw [← hSR] at XB
          have XC : Hid (∀ (o n' c' : Nat), (o = 0 ∧ n' = k ∧ c' = c) ∨ (o = k ∧ n' = d ∧ c' = c - k) → Calls Try.prog 99 #[.slice (some ⟨b, o, none⟩) n' c'] wq.drew fun e w' => e = .returned (.string (toS (textL ((l.drop o).take n')))) ∧ w' = wq.drew) := Lib.hid (fun o n' c' h => by
            rcases h with ⟨rfl, rfl, rfl⟩ | ⟨rfl, rfl, rfl⟩
            · exact XX.out _ _ _ kn0
            · exact XX.out _ _ _ kd)
          have HSF := Lib.hid hSF
          have HSR := Lib.hid hSR
          have HXA := Lib.hid XA
          have HXB := Lib.hid XB
          clear hSF hSR XX XA XB
          have n1 : ¬ (c = k) := by omega
          have n2 : ¬ (c - k = 0) := by omega
          have n3 : ¬ (c ≤ k) := by omega
          have n4 : k + d - k = d := by omega
          have n5 : ((k : Int) + (d : Int)).toNat = k + d := by omega
          have n6 : ¬ (c = 0) := by omega
          have n7 : IntKind.i64.wrap ((k : Int) + (d : Int)) = (k : Int) + (d : Int) := by rw [i64_of _ (by omega) (by omega)]
          go_wp2_with fail
          have BW : Hid (Below w.heap.size w wq) := Lib.hid (B0.out.trans (BQ.out.mono B0.out.size))
          go_region_held3 (fun W => Below w.heap.size w W)
            (first
              | exact BW.out.drew
              | exact ((BW.out.setCell (p := ⟨w.heap.size, 0, none⟩) (Nat.le_refl _) _).setCell (p := ⟨w.heap.size, 1, none⟩) (Nat.le_refl _) _).drew
              | exact (BW.out.drew.setCell (p := ⟨w.heap.size, 0, none⟩) (Nat.le_refl _) _).setCell (p := ⟨w.heap.size, 1, none⟩) (Nat.le_refl _) _)
            (first
              | (go_at_call 99; refine (XC.out _ _ _ (by first | exact .inl ⟨rfl, rfl, rfl⟩ | exact .inr ⟨rfl, rfl, rfl⟩)).mono ?_; rintro e wa ⟨rfl, rfl⟩))
          go_wp2_with fail
          exact bodyPost_ret (v := .tuple #[.agg #[.string (toS (textL (l.take k))), .string (toS (textL ((l.drop k).take d)))], .bool true]) (by simp [results, Try.results84, go_sem, z0, z1]) rfl ⟨by rw [E.out], ((BW.out.setCell (p := ⟨w.heap.size, 0, none⟩) (Nat.le_refl _) _).setCell (p := ⟨w.heap.size, 1, none⟩) (Nat.le_refl _) _).drew⟩
        · have t2 : decide (0 < k) = true := by simp; omega
          have hk1 : 1 ≤ k := by omega
          have L1 : k - 1 < l.length := by rw [N1.out]; have := HM.out; omega
          have L2 : k - 1 + d < l.length := by rw [N1.out]; have := HM.out; omega
          have x2 : k - 1 + d < n := by have := HM.out; omega
          have x1 : k - 1 < n := by have := HM.out; omega
          have a1 := A1.out (k - 1) L1
          have a2 := A1.out (k - 1 + d) L2
          rw [Nat.zero_add] at a1 a2
          have HB : Hid (backB l d k = if (l[k - 1] == l[k - 1 + d]) then backB l d (k - 1) else k) := Lib.hid (backB_step hk1 L1 L2 rfl)
          have i1 : ((k : Int) - 1) = ((k - 1 : Nat) : Int) := by omega
          have i2 : (((k - 1 : Nat) : Int) + (d : Int)) = ((k - 1 + d : Nat) : Int) := by omega
          clear hz
          generalize l[k - 1] = x at *
          generalize l[k - 1 + d] = y at *
          obtain ⟨j, hj⟩ : ∃ j, j = k - 1 := ⟨_, rfl⟩
          have HJ := Lib.hid hj
          have HIx := Lib.hid i1
          clear i1 i2
          cases x <;> cases y
          · go_wp2_with fail
            go_quiet (fail)
            go_wp2_with fail
            go_roundw
            case rel => exact ⟨k - 1, by omega, by rw [HIx.out], Lib.hid (by rw [← hK.out, HB.out]; rfl), Lib.hid (by obtain ⟨q, rfl⟩ := hw.out; exact ⟨_, drewN_drewN _ _ _⟩)⟩
            case measure => simp [intOf]; omega
          · have HKK : Hid (backB l d k = k) := Lib.hid (by rw [HB.out]; rfl)
            go_wp2_with fail
            go_quiet (fail)
            obtain ⟨wq, hwq⟩ : ∃ wq, wq = wr.drewN nq := ⟨_, rfl⟩
            rw [← hwq]
            have BQ : Hid (Below W0.heap.size W0 wq) := Lib.hid (by obtain ⟨q, rfl⟩ := hw.out; rw [hwq]; exact below_drewN (below_drewN (Below.refl _ _) q) nq)
            have WQ : Hid (∃ q, wq = W0.drewN q) := Lib.hid (by obtain ⟨q, rfl⟩ := hw.out; rw [hwq]; exact ⟨_, drewN_drewN _ _ _⟩)
            have KF : Hid (backB l d (l.length - d) = k) := Lib.hid (by rw [N1.out, ← HM.out, ← hK.out]; exact HKK.out)
            have HF : Hid (formedO l = if 60 < k then (if k < n / 2 then none else formedFrom l (61 - (d + 1)) (d + 1)) else some (k, d)) := Lib.hid (by
              rw [hf.out, show 61 - d = (61 - (d + 1)) + 1 by omega, formedFrom, KF.out, N1.out])
            clear hwq hw hK A1 HKK
            by_cases h60 : 60 < k
            · have t6 : decide ((60 : Int) < (k : Int)) = true := decide_eq_true (by omega)
              by_cases h7 : k < n / 2
              · have t7 : decide ((k : Int) < (n : Int) / 2) = true := decide_eq_true (by omega)
                have E : Hid (formedV l = .tuple #[.agg #[.string { data := #[] }, .string { data := #[] }], .bool false]) := Lib.hid (by unfold formedV; rw [HF.out, if_pos h60, if_pos h7])
                obtain ⟨d0, d1, d2, d3⟩ := D0.out
                have z0 : wq.cell? ⟨w.heap.size, 0, none⟩ = some (.string { data := #[] }) := below_at BQ.out ltW.out d0
                have z1 : wq.cell? ⟨w.heap.size, 1, none⟩ = some (.string { data := #[] }) := below_at BQ.out ltW.out d1
                have z2 : wq.frozen? ⟨w.heap.size, 0, none⟩ = false := (BQ.out.frozen (p := ⟨w.heap.size, 0, none⟩) ltW.out).trans d2
                have z3 : wq.frozen? ⟨w.heap.size, 1, none⟩ = false := (BQ.out.frozen (p := ⟨w.heap.size, 1, none⟩) ltW.out).trans d3
                clear d0 d1 d2 d3
                go_wp2_with fail
                exact bodyPost_ret (v := .tuple #[.agg #[.string { data := #[] }, .string { data := #[] }], .bool false]) (by simp [results, Try.results84, go_sem, z0, z1]) rfl ⟨by rw [E.out], ((B0.out.trans (BQ.out.mono B0.out.size)).setCell (p := ⟨w.heap.size, 0, none⟩) (Nat.le_refl _) _).setCell (p := ⟨w.heap.size, 1, none⟩) (Nat.le_refl _) _⟩
              · have t7 : decide ((k : Int) < (n : Int) / 2) = false := decide_eq_false (by omega)
                have E : Hid (formedO l = formedFrom l (61 - (d + 1)) (d + 1)) := Lib.hid (by rw [HF.out, if_pos h60, if_neg h7])
                go_wp2_with fail
                go_roundw
                case rel => exact ⟨d + 1, by omega, by omega, rfl, E, WQ⟩
                case measure => simp [intOf]; omega
            · have t6 : decide ((60 : Int) < (k : Int)) = false := decide_eq_false (by omega)
              have E : Hid (formedV l = .tuple #[.agg #[.string (toS (textL (l.take k))), .string (toS (textL ((l.drop k).take d)))], .bool true]) := Lib.hid (by unfold formedV; rw [HF.out, if_neg h60])
              have A2 : Hid (AtBo wq b 0 l) := Lib.hid (A0.out.below BQ.out (Nat.lt_of_lt_of_le hb B0.out.size))
              have XX : Hid (∀ (o n' c' : Nat), o + n' ≤ n → Calls Try.prog 99 #[.slice (some ⟨b, o, none⟩) n' c'] wq.drew fun e w' => e = .returned (.string (toS (textL ((l.drop o).take n')))) ∧ w' = wq.drew) := Lib.hid (fun o n' c' h => by
                have h0 : AtBo wq.drew b 0 l := A2.out
                have := refText_any b (0 + o) n' c' ((l.drop o).take n') wq.drew (by rw [List.length_take, List.length_drop, N1.out]; omega) (by omega) ((h0.drop o).take n')
                rwa [Nat.zero_add] at this)
              have kd : k + d ≤ n := by have := HM.out; omega
              have kn : k ≤ n := by omega
              have kn0 : 0 + k ≤ n := by omega
              have i7 : (0 : Int) ≤ (k : Int) := by omega
              have i8 : (k : Int) ≤ (k : Int) + (d : Int) := by omega
              have i9 : (k : Int) + (d : Int) ≤ (c : Int) := by omega
              have i10 : (k : Int) ≤ (c : Int) := by omega
              obtain ⟨d0, d1, d2, d3⟩ := D0.out
              have z0 : wq.cell? ⟨w.heap.size, 0, none⟩ = some (.string { data := #[] }) := below_at BQ.out ltW.out d0
              have z1 : wq.cell? ⟨w.heap.size, 1, none⟩ = some (.string { data := #[] }) := below_at BQ.out ltW.out d1
              have z2 : wq.frozen? ⟨w.heap.size, 0, none⟩ = false := (BQ.out.frozen (p := ⟨w.heap.size, 0, none⟩) ltW.out).trans d2
              have z3 : wq.frozen? ⟨w.heap.size, 1, none⟩ = false := (BQ.out.frozen (p := ⟨w.heap.size, 1, none⟩) ltW.out).trans d3
              clear d0 d1 d2 d3
              have s1 := fun w => slice_to_bo b 0 n c k (by omega) w
              have s2 : ∀ w, (Instr.slice 78 (.slice (some ⟨b, 0, none⟩) n c) (some (.int .i64 (k : Int))) (some (.int .i64 ((k : Int) + (d : Int)))) none).run Try.prog w = .ok (.slice (some ⟨b, k, none⟩) d (c - k)) w := fun w => by
                have := slice_mid_bo b 0 n c k (k + d) (by omega) (by omega) w
                rw [show k + d - k = d by omega, Nat.zero_add, show ((k + d : Nat) : Int) = (k : Int) + (d : Int) by omega] at this; exact this
              have XA := XX.out 0 k c kn0
              have XB := XX.out k d (c - k) kd
              rw [List.drop_zero] at XA
              obtain ⟨SF, hSF⟩ : ∃ SF, SF = toS (textL (l.take k)) := ⟨_, rfl⟩
              obtain ⟨SR, hSR⟩ : ∃ SR, SR = toS (textL ((l.drop k).take d)) := ⟨_, rfl⟩
              rw [← hSF] at XA
              rw [← hSR] at XB
              have XC : Hid (∀ (o n' c' : Nat), (o = 0 ∧ n' = k ∧ c' = c) ∨ (o = k ∧ n' = d ∧ c' = c - k) → Calls Try.prog 99 #[.slice (some ⟨b, o, none⟩) n' c'] wq.drew fun e w' => e = .returned (.string (toS (textL ((l.drop o).take n')))) ∧ w' = wq.drew) := Lib.hid (fun o n' c' h => by
                rcases h with ⟨rfl, rfl, rfl⟩ | ⟨rfl, rfl, rfl⟩
                · exact XX.out _ _ _ kn0
                · exact XX.out _ _ _ kd)
              have HSF := Lib.hid hSF
              have HSR := Lib.hid hSR
              have HXA := Lib.hid XA
              have HXB := Lib.hid XB
              clear hSF hSR XX XA XB
              have n1 : ¬ (c = k) := by omega
              have n2 : ¬ (c - k = 0) := by omega
              have n3 : ¬ (c ≤ k) := by omega
              have n4 : k + d - k = d := by omega
              have n5 : ((k : Int) + (d : Int)).toNat = k + d := by omega
              have n6 : ¬ (c = 0) := by omega
              have n7 : IntKind.i64.wrap ((k : Int) + (d : Int)) = (k : Int) + (d : Int) := by rw [i64_of _ (by omega) (by omega)]
              go_wp2_with fail
              have BW : Hid (Below w.heap.size w wq) := Lib.hid (B0.out.trans (BQ.out.mono B0.out.size))
              go_region_held3 (fun W => Below w.heap.size w W)
                (first
                  | exact BW.out.drew
                  | exact ((BW.out.setCell (p := ⟨w.heap.size, 0, none⟩) (Nat.le_refl _) _).setCell (p := ⟨w.heap.size, 1, none⟩) (Nat.le_refl _) _).drew
                  | exact (BW.out.drew.setCell (p := ⟨w.heap.size, 0, none⟩) (Nat.le_refl _) _).setCell (p := ⟨w.heap.size, 1, none⟩) (Nat.le_refl _) _)
                (first
                  | (go_at_call 99; refine (XC.out _ _ _ (by first | exact .inl ⟨rfl, rfl, rfl⟩ | exact .inr ⟨rfl, rfl, rfl⟩)).mono ?_; rintro e wa ⟨rfl, rfl⟩))
              go_wp2_with fail
              exact bodyPost_ret (v := .tuple #[.agg #[.string (toS (textL (l.take k))), .string (toS (textL ((l.drop k).take d)))], .bool true]) (by simp [results, Try.results84, go_sem, z0, z1]) rfl ⟨by rw [E.out], ((BW.out.setCell (p := ⟨w.heap.size, 0, none⟩) (Nat.le_refl _) _).setCell (p := ⟨w.heap.size, 1, none⟩) (Nat.le_refl _) _).drew⟩
          · have HKK : Hid (backB l d k = k) := Lib.hid (by rw [HB.out]; rfl)
            go_wp2_with fail
            go_quiet (fail)
            obtain ⟨wq, hwq⟩ : ∃ wq, wq = wr.drewN nq := ⟨_, rfl⟩
            rw [← hwq]
            have BQ : Hid (Below W0.heap.size W0 wq) := Lib.hid (by obtain ⟨q, rfl⟩ := hw.out; rw [hwq]; exact below_drewN (below_drewN (Below.refl _ _) q) nq)
            have WQ : Hid (∃ q, wq = W0.drewN q) := Lib.hid (by obtain ⟨q, rfl⟩ := hw.out; rw [hwq]; exact ⟨_, drewN_drewN _ _ _⟩)
            have KF : Hid (backB l d (l.length - d) = k) := Lib.hid (by rw [N1.out, ← HM.out, ← hK.out]; exact HKK.out)
            have HF : Hid (formedO l = if 60 < k then (if k < n / 2 then none else formedFrom l (61 - (d + 1)) (d + 1)) else some (k, d)) := Lib.hid (by
              rw [hf.out, show 61 - d = (61 - (d + 1)) + 1 by omega, formedFrom, KF.out, N1.out])
            clear hwq hw hK A1 HKK
            by_cases h60 : 60 < k
            · have t6 : decide ((60 : Int) < (k : Int)) = true := decide_eq_true (by omega)
              by_cases h7 : k < n / 2
              · have t7 : decide ((k : Int) < (n : Int) / 2) = true := decide_eq_true (by omega)
                have E : Hid (formedV l = .tuple #[.agg #[.string { data := #[] }, .string { data := #[] }], .bool false]) := Lib.hid (by unfold formedV; rw [HF.out, if_pos h60, if_pos h7])
                obtain ⟨d0, d1, d2, d3⟩ := D0.out
                have z0 : wq.cell? ⟨w.heap.size, 0, none⟩ = some (.string { data := #[] }) := below_at BQ.out ltW.out d0
                have z1 : wq.cell? ⟨w.heap.size, 1, none⟩ = some (.string { data := #[] }) := below_at BQ.out ltW.out d1
                have z2 : wq.frozen? ⟨w.heap.size, 0, none⟩ = false := (BQ.out.frozen (p := ⟨w.heap.size, 0, none⟩) ltW.out).trans d2
                have z3 : wq.frozen? ⟨w.heap.size, 1, none⟩ = false := (BQ.out.frozen (p := ⟨w.heap.size, 1, none⟩) ltW.out).trans d3
                clear d0 d1 d2 d3
                go_wp2_with fail
                exact bodyPost_ret (v := .tuple #[.agg #[.string { data := #[] }, .string { data := #[] }], .bool false]) (by simp [results, Try.results84, go_sem, z0, z1]) rfl ⟨by rw [E.out], ((B0.out.trans (BQ.out.mono B0.out.size)).setCell (p := ⟨w.heap.size, 0, none⟩) (Nat.le_refl _) _).setCell (p := ⟨w.heap.size, 1, none⟩) (Nat.le_refl _) _⟩
              · have t7 : decide ((k : Int) < (n : Int) / 2) = false := decide_eq_false (by omega)
                have E : Hid (formedO l = formedFrom l (61 - (d + 1)) (d + 1)) := Lib.hid (by rw [HF.out, if_pos h60, if_neg h7])
                go_wp2_with fail
                go_roundw
                case rel => exact ⟨d + 1, by omega, by omega, rfl, E, WQ⟩
                case measure => simp [intOf]; omega
            · have t6 : decide ((60 : Int) < (k : Int)) = false := decide_eq_false (by omega)
              have E : Hid (formedV l = .tuple #[.agg #[.string (toS (textL (l.take k))), .string (toS (textL ((l.drop k).take d)))], .bool true]) := Lib.hid (by unfold formedV; rw [HF.out, if_neg h60])
              have A2 : Hid (AtBo wq b 0 l) := Lib.hid (A0.out.below BQ.out (Nat.lt_of_lt_of_le hb B0.out.size))
              have XX : Hid (∀ (o n' c' : Nat), o + n' ≤ n → Calls Try.prog 99 #[.slice (some ⟨b, o, none⟩) n' c'] wq.drew fun e w' => e = .returned (.string (toS (textL ((l.drop o).take n')))) ∧ w' = wq.drew) := Lib.hid (fun o n' c' h => by
                have h0 : AtBo wq.drew b 0 l := A2.out
                have := refText_any b (0 + o) n' c' ((l.drop o).take n') wq.drew (by rw [List.length_take, List.length_drop, N1.out]; omega) (by omega) ((h0.drop o).take n')
                rwa [Nat.zero_add] at this)
              have kd : k + d ≤ n := by have := HM.out; omega
              have kn : k ≤ n := by omega
              have kn0 : 0 + k ≤ n := by omega
              have i7 : (0 : Int) ≤ (k : Int) := by omega
              have i8 : (k : Int) ≤ (k : Int) + (d : Int) := by omega
              have i9 : (k : Int) + (d : Int) ≤ (c : Int) := by omega
              have i10 : (k : Int) ≤ (c : Int) := by omega
              obtain ⟨d0, d1, d2, d3⟩ := D0.out
              have z0 : wq.cell? ⟨w.heap.size, 0, none⟩ = some (.string { data := #[] }) := below_at BQ.out ltW.out d0
              have z1 : wq.cell? ⟨w.heap.size, 1, none⟩ = some (.string { data := #[] }) := below_at BQ.out ltW.out d1
              have z2 : wq.frozen? ⟨w.heap.size, 0, none⟩ = false := (BQ.out.frozen (p := ⟨w.heap.size, 0, none⟩) ltW.out).trans d2
              have z3 : wq.frozen? ⟨w.heap.size, 1, none⟩ = false := (BQ.out.frozen (p := ⟨w.heap.size, 1, none⟩) ltW.out).trans d3
              clear d0 d1 d2 d3
              have s1 := fun w => slice_to_bo b 0 n c k (by omega) w
              have s2 : ∀ w, (Instr.slice 78 (.slice (some ⟨b, 0, none⟩) n c) (some (.int .i64 (k : Int))) (some (.int .i64 ((k : Int) + (d : Int)))) none).run Try.prog w = .ok (.slice (some ⟨b, k, none⟩) d (c - k)) w := fun w => by
                have := slice_mid_bo b 0 n c k (k + d) (by omega) (by omega) w
                rw [show k + d - k = d by omega, Nat.zero_add, show ((k + d : Nat) : Int) = (k : Int) + (d : Int) by omega] at this; exact this
              have XA := XX.out 0 k c kn0
              have XB := XX.out k d (c - k) kd
              rw [List.drop_zero] at XA
              obtain ⟨SF, hSF⟩ : ∃ SF, SF = toS (textL (l.take k)) := ⟨_, rfl⟩
              obtain ⟨SR, hSR⟩ : ∃ SR, SR = toS (textL ((l.drop k).take d)) := ⟨_, rfl⟩
              rw [← hSF] at XA
              rw [← hSR] at XB
              have XC : Hid (∀ (o n' c' : Nat), (o = 0 ∧ n' = k ∧ c' = c) ∨ (o = k ∧ n' = d ∧ c' = c - k) → Calls Try.prog 99 #[.slice (some ⟨b, o, none⟩) n' c'] wq.drew fun e w' => e = .returned (.string (toS (textL ((l.drop o).take n')))) ∧ w' = wq.drew) := Lib.hid (fun o n' c' h => by
                rcases h with ⟨rfl, rfl, rfl⟩ | ⟨rfl, rfl, rfl⟩
                · exact XX.out _ _ _ kn0
                · exact XX.out _ _ _ kd)
              have HSF := Lib.hid hSF
              have HSR := Lib.hid hSR
              have HXA := Lib.hid XA
              have HXB := Lib.hid XB
              clear hSF hSR XX XA XB
              have n1 : ¬ (c = k) := by omega
              have n2 : ¬ (c - k = 0) := by omega
              have n3 : ¬ (c ≤ k) := by omega
              have n4 : k + d - k = d := by omega
              have n5 : ((k : Int) + (d : Int)).toNat = k + d := by omega
              have n6 : ¬ (c = 0) := by omega
              have n7 : IntKind.i64.wrap ((k : Int) + (d : Int)) = (k : Int) + (d : Int) := by rw [i64_of _ (by omega) (by omega)]
              go_wp2_with fail
              have BW : Hid (Below w.heap.size w wq) := Lib.hid (B0.out.trans (BQ.out.mono B0.out.size))
              go_region_held3 (fun W => Below w.heap.size w W)
                (first
                  | exact BW.out.drew
                  | exact ((BW.out.setCell (p := ⟨w.heap.size, 0, none⟩) (Nat.le_refl _) _).setCell (p := ⟨w.heap.size, 1, none⟩) (Nat.le_refl _) _).drew
                  | exact (BW.out.drew.setCell (p := ⟨w.heap.size, 0, none⟩) (Nat.le_refl _) _).setCell (p := ⟨w.heap.size, 1, none⟩) (Nat.le_refl _) _)
                (first
                  | (go_at_call 99; refine (XC.out _ _ _ (by first | exact .inl ⟨rfl, rfl, rfl⟩ | exact .inr ⟨rfl, rfl, rfl⟩)).mono ?_; rintro e wa ⟨rfl, rfl⟩))
              go_wp2_with fail
              exact bodyPost_ret (v := .tuple #[.agg #[.string (toS (textL (l.take k))), .string (toS (textL ((l.drop k).take d)))], .bool true]) (by simp [results, Try.results84, go_sem, z0, z1]) rfl ⟨by rw [E.out], ((BW.out.setCell (p := ⟨w.heap.size, 0, none⟩) (Nat.le_refl _) _).setCell (p := ⟨w.heap.size, 1, none⟩) (Nat.le_refl _) _).drew⟩
          · go_wp2_with fail
            go_quiet (fail)
            go_wp2_with fail
            go_roundw
            case rel => exact ⟨k - 1, by omega, by rw [HIx.out], Lib.hid (by rw [← hK.out, HB.out]; rfl), Lib.hid (by obtain ⟨q, rfl⟩ := hw.out; exact ⟨_, drewN_drewN _ _ _⟩)⟩
            case measure => simp [intOf]; omega
    · have hd : d = 61 := by omega
      have t1 : decide ((d : Int) ≤ 60) = false := decide_eq_false (by omega)
      have E : Hid (formedV l = .tuple #[.agg #[.string { data := #[] }, .string { data := #[] }], .bool false]) := Lib.hid (by unfold formedV; rw [hf.out, hd]; rfl)
      have BQ : Hid (Below W0.heap.size W0 wr) := Lib.hid (by obtain ⟨q, rfl⟩ := hw.out; exact below_drewN (Below.refl _ _) q)
      obtain ⟨d0, d1, d2, d3⟩ := D0.out
      have z0 : wr.cell? ⟨w.heap.size, 0, none⟩ = some (.string { data := #[] }) := below_at BQ.out ltW.out d0
      have z1 : wr.cell? ⟨w.heap.size, 1, none⟩ = some (.string { data := #[] }) := below_at BQ.out ltW.out d1
      have z2 : wr.frozen? ⟨w.heap.size, 0, none⟩ = false := (BQ.out.frozen (p := ⟨w.heap.size, 0, none⟩) ltW.out).trans d2
      have z3 : wr.frozen? ⟨w.heap.size, 1, none⟩ = false := (BQ.out.frozen (p := ⟨w.heap.size, 1, none⟩) ltW.out).trans d3
      clear d0 d1 d2 d3
      go_wp2_with fail
      exact bodyPost_ret (v := .tuple #[.agg #[.string { data := #[] }, .string { data := #[] }], .bool false]) (by simp [results, Try.results84, go_sem, z0, z1]) rfl ⟨by rw [E.out], ((B0.out.trans (BQ.out.mono B0.out.size)).setCell (p := ⟨w.heap.size, 0, none⟩) (Nat.le_refl _) _).setCell (p := ⟨w.heap.size, 1, none⟩) (Nat.le_refl _) _⟩
end Go.Proofs.Ytbhlddfjfcmncaa
