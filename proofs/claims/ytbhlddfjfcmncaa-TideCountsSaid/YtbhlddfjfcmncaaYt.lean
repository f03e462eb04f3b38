import Derived.Test.YtbhlddfjfcmncaaYs
import Derived.Test.YtbhlddfjfcmncaaYe
import Derived.Maps.OwnIn
import Derived.Maps.OwnSet
import Derived.RangeFuncNested
import Derived.RangeFuncBound
import Derived.RangeFuncCalls
import Derived.RangeFuncLeaves
import Derived.Shelf.Abstract
import Derived.Shelf.RegionOpen
import Derived.WalkKit
import Derived.OwnWalkIn
import Derived.TacticsInMore
import Derived.LoopNIn
import Derived.LoopIn
import Derived.WalkSpells
import Derived.WalkLawsBesides
import Derived.BigQuiet
import Derived.Deep.QuietTactic
import Derived.Lib.Hide
import Derived.Deep.RegionHeld3
import Derived.StillTailTactics
import Derived.Lib.MakeNoZero
import Derived.Laws.CopyOwn
import Derived.Deep.RegionLaw
import Derived.Deep.LoopGhost
import Derived.Deep.CutBlock
import Derived.Deep.AppendLies
import Derived.Deep.DeepCutAuto
import Derived.Lib.IndexAny
namespace Go.Proofs.Ytbhlddfjfcmncaa
open Go.RowKit Go.Shelf
attribute [local go_sem] Oper.semAt_some
theorem infoInt : (Try.prog.info? 3).map (fun i => (i.zero, i.size, i.bytes)) = some (some (.int .i64 0), 1, 8) := by kernel_rfl
theorem gap_bd {f r : ByteArray} (z3 : 1 ≤ r.size) {i : Nat} (hi : f.size ≤ i) (hh : hasB f r i = true) : ∃ k, nextO f r (i + 1) = some k ∧ i < k ∧ k ≤ i + r.size := by
  have hp := hasB_per f r 1
  rw [Nat.one_mul] at hp
  have h2 : hasB f r (i + r.size) = true := by rw [hp i hi, hh]
  cases hn : nextO f r (i + 1) with
  | none =>
    have := nextO_none_all z3 hn (i + r.size) (by omega)
    rw [h2] at this; cases this
  | some k =>
    refine ⟨k, rfl, (findFrom_ge hn).1, ?_⟩
    by_cases hk : k ≤ i + r.size
    · exact hk
    · have := (findFrom_some hn).2 (i + r.size) (by omega) (by omega)
      rw [h2] at this; cases this
theorem accTo_bd {f r : ByteArray} (z2 : r.size ≤ 60) (z3 : 1 ≤ r.size) (l : Nat) : ∀ d ∈ accTo f r l, 1 ≤ d ∧ d ≤ 60 := by
  intro d hd
  unfold accTo at hd
  obtain ⟨i, hi, rfl⟩ := List.mem_map.1 hd
  have hi2 := (List.mem_filter.1 hi).2
  simp only [Bool.and_eq_true, decide_eq_true_eq] at hi2
  obtain ⟨k, hk, h1, h2⟩ := gap_bd z3 hi2.1 hi2.2
  unfold gapAt
  rw [hk]
  simp only [Option.getD_some]; omega
def upTo (acc : List Nat) (d : Nat) : List Nat := (List.range d).filter fun x => decide (1 ≤ x) && acc.contains x
theorem upTo_succ (acc : List Nat) (d : Nat) (h : 1 ≤ d) : upTo acc (d + 1) = if acc.contains d then upTo acc d ++ [d] else upTo acc d := by
  unfold upTo
  rw [List.range_succ, List.filter_append]
  cases hc : acc.contains d
  · have hc' : d ∉ acc := by simpa using hc
    simp [hc']
  · have hc' : d ∈ acc := by simpa using hc
    simp [hc', h]
theorem upTo_gaps {acc : List Nat} (hacc : ∀ d ∈ acc, 1 ≤ d ∧ d ≤ 60) : upTo acc 61 = gapsOf acc := by
  unfold upTo gapsOf
  have e : List.range 200 = List.range 61 ++ (List.range 139).map (61 + ·) := by
    rw [show 200 = 61 + 139 from rfl, List.range_add]
  rw [e, List.filter_append]
  have h2 : ((List.range 139).map (61 + ·)).filter (fun d => acc.contains d) = [] := by
    rw [List.filter_eq_nil_iff]
    intro d hd hc
    obtain ⟨x, _, rfl⟩ := List.mem_map.1 hd
    have := hacc _ (by simpa using hc)
    omega
  rw [h2, List.append_nil]
  apply List.filter_congr
  intro d _
  by_cases h : 1 ≤ d
  · simp [h]
  · have h0 : d = 0 := by omega
    subst h0
    cases hc : acc.contains 0
    · simp
    · have := hacc 0 (by simpa using hc); omega
def encI (n : Nat) : Value := .int .i64 (n : Int)
def marksA (acc : List Nat) : List Value := (List.range 61).map fun d => .bool (acc.contains d)
theorem marksA_get (acc : List Nat) (d : Nat) (h : d < 61) : (marksA acc)[d]? = some (.bool (acc.contains d)) := by unfold marksA; simp [h]
theorem marksA_set (acc : List Nat) (d : Nat) (h : d < 61) : (marksA acc).set d (.bool true) = marksA (acc ++ [d]) := by
  unfold marksA
  apply List.ext_getElem
  · simp
  · intro i h1 h2
    simp at h1 h2
    rw [List.getElem_set]
    simp
    by_cases e : d = i
    · subst e; simp
    · simp [e, Ne.symm e]
set_option maxRecDepth 100000 in
set_option maxHeartbeats 1000000 in
theorem refGaps_own (f r : ByteArray) (w : World) (ht : tideB (f, r) = true) (he : endB r = true) :
    Calls Try.prog 53 #[.agg #[.string f, .string r]] w fun e w' => ∃ v : Value, e = .returned v ∧ w'.ownsRow (w.heap.size + 2) 3 1 v (gapsL f r).length ((gapsL f r).map encI) ∧ Below w.heap.size w w' := by
  obtain ⟨z1, z2, z3⟩ := tideB_size ht
  have hlit : (marksA []).toArray = #[Value.bool false, Value.bool false, Value.bool false, Value.bool false, Value.bool false, Value.bool false, Value.bool false, Value.bool false, Value.bool false, Value.bool false, Value.bool false, Value.bool false, Value.bool false, Value.bool false, Value.bool false, Value.bool false, Value.bool false, Value.bool false, Value.bool false, Value.bool false, Value.bool false, Value.bool false, Value.bool false, Value.bool false, Value.bool false, Value.bool false, Value.bool false, Value.bool false, Value.bool false, Value.bool false, Value.bool false, Value.bool false, Value.bool false, Value.bool false, Value.bool false, Value.bool false, Value.bool false, Value.bool false, Value.bool false, Value.bool false, Value.bool false, Value.bool false, Value.bool false, Value.bool false, Value.bool false, Value.bool false, Value.bool false, Value.bool false, Value.bool false, Value.bool false, Value.bool false, Value.bool false, Value.bool false, Value.bool false, Value.bool false, Value.bool false, Value.bool false, Value.bool false, Value.bool false, Value.bool false, Value.bool false] := rfl
  obtain ⟨i0, hi, hz0, hz1, hz2⟩ := info_parts infoInt
  have HI := Lib.hid hi
  have H0 := Lib.hid hz0
  have H1 := Lib.hid hz1
  have H2 := Lib.hid hz2
  clear hi hz0 hz1 hz2
  have HBD := Lib.hid (accTo_bd (f := f) z2 z3)
  go_enter Try.func53, Try.ntmps53
  go_wp2_with fail
  obtain ⟨W0, hW0⟩ : ∃ W0, W0 = (w.alloc (.cells #[.string f, .string r] 24)).alloc (.cells (marksA []).toArray 104) := ⟨_, rfl⟩
  have B0 : Hid (Below w.heap.size w W0) := Lib.hid (by rw [hW0]; exact ((Below.refl _ _).alloc (Nat.le_refl _) _).alloc (by simp) _)
  have C0 : Hid (Two W0 w.heap.size f r) := Lib.hid (by rw [hW0]; exact (Two.new w f r 24).alloc _)
  have R0 : Hid (Row W0 (w.heap.size + 1) 104 (marksA (accTo f r f.size))) := Lib.hid (by
    rw [hW0, accTo_first]
    have := Row.new (w.alloc (.cells #[.string f, .string r] 24)) 104 (marksA [])
    rw [size_al] at this; exact this)
  rw [hlit] at hW0
  rw [← hW0]
  clear hW0 hlit
  go_wp2_with fail
  go_loopw [4] (fun i wr => ∃ k : Nat, f.size ≤ k ∧ k ≤ f.size + r.size ∧ i = .int .i64 k ∧ Hid (Row wr (w.heap.size + 1) 104 (marksA (accTo f r k))) ∧ Hid (Below w.heap.size w wr) ∧ Hid (Two wr w.heap.size f r)) (fun i _ => f.size + r.size - (intOf i).toNat)
  case atStart => exact ⟨f.size, Nat.le_refl _, Nat.le_add_right _ _, rfl, R0, B0, C0⟩
  case round =>
    clear R0 B0 C0
    obtain ⟨k, hk1, hk2, rfl, R, B, C⟩ := hrel
    have c0 := C.out.2.1
    have c1 := C.out.2.2
    by_cases hlt : k < f.size + r.size
    · have t1 : decide ((k : Int) < (f.size : Int) + (r.size : Int)) = true := decide_eq_true (by omega)
      have HH : Hid (∀ W, Calls Try.prog 39 #[.agg #[.string f, .string r], .int .i64 k] W fun e w' => e = .returned (.bool (hasB f r k)) ∧ Below W.heap.size W w') := Lib.hid (fun W => refHas_any f r k W z3 (by omega))
      cases hb9 : hasB f r k
      · rw [hb9] at HH
        have AS : Hid (accTo f r (k + 1) = accTo f r k) := Lib.hid (accTo_skip f r k (k + 1) (Nat.le_succ _) (fun i h1 h2 => by rw [show i = k by omega]; exact hb9))
        go_wp2_with fail
        refine (HH.out _).mono ?_
        rintro e w3 ⟨rfl, hb⟩
        replace B := Lib.hid (Below.andThen B.out hb (Nat.le_refl _))
        replace C := Lib.hid (C.out.below hb)
        replace R := Lib.hid (R.out.below hb R.out.lt)
        clear hb c0 c1 HH
        go_wp2_with fail
        go_roundw
        case rel => exact ⟨k + 1, by omega, by omega, rfl, by rw [AS.out]; exact R, B, C⟩
        case measure => simp [intOf]; omega
      · rw [hb9] at HH
        obtain ⟨j, hj, hj1, hj2⟩ := gap_bd z3 hk1 hb9
        have AS : Hid (accTo f r (k + 1) = accTo f r k ++ [j - k]) := Lib.hid (by rw [accTo_succ f r k hk1 hb9]; unfold gapAt; rw [hj]; rfl)
        have HW : Hid (∀ W, Calls Try.prog 38 #[.agg #[.string f, .string r], .int .i64 ((k : Int) + 1)] W fun e w' => e = .returned (.int .i64 ((j - (k + 1) : Nat) : Int)) ∧ Below W.heap.size W w') := Lib.hid (fun W => by
          have := refWait_any f r (k + 1) W z1 z2 z3 (by omega)
          rw [rwait_some hj] at this; exact this)
        obtain ⟨d, hd⟩ : ∃ d, d = j - k := ⟨_, rfl⟩
        obtain ⟨d1, hd1⟩ : ∃ d1, d1 = j - (k + 1) := ⟨_, rfl⟩
        rw [← hd] at AS
        rw [← hd1] at HW
        have e1 : (1 : Int) + (d1 : Int) = (d : Int) := by omega
        have d61 : d < 61 := by omega
        have e2 : (0 : Int) ≤ (d : Int) := by omega
        have e3 : (d : Int) < 61 := by omega
        clear hj hd hd1 hj1 hj2
        go_wp2_with fail
        refine (HH.out _).mono ?_
        rintro e w3 ⟨rfl, hb⟩
        replace B := Lib.hid (Below.andThen B.out hb (Nat.le_refl _))
        replace C := Lib.hid (C.out.below hb)
        replace R := Lib.hid (R.out.below hb R.out.lt)
        clear hb c0 c1 HH
        have c0 := C.out.2.1
        have c1 := C.out.2.2
        go_wp2_with fail
        refine (HW.out _).mono ?_
        rintro e w4 ⟨rfl, hb⟩
        replace B := Lib.hid (Below.andThen B.out hb (Nat.le_refl _))
        replace C := Lib.hid (C.out.below hb)
        replace R := Lib.hid (R.out.below hb R.out.lt)
        clear hb c0 c1 HW
        have x0 : w4.cell? ⟨w.heap.size + 1, d, none⟩ = some (.bool ((accTo f r k).contains d)) := by rw [R.out.cell, marksA_get _ _ d61]
        have x1 : w4.frozen? ⟨w.heap.size + 1, d, none⟩ = false := R.out.frozen d
        have R2 := Lib.hid (R.out.set d (.bool true))
        rw [marksA_set _ _ d61, ← AS.out] at R2
        have B2 : Hid (Below w.heap.size w (w4.setCell ⟨w.heap.size + 1, d, none⟩ (.bool true))) := Lib.hid (B.out.setCell (p := ⟨w.heap.size + 1, d, none⟩) (by dsimp only; omega) _)
        have C2 : Hid (Two (w4.setCell ⟨w.heap.size + 1, d, none⟩ (.bool true)) w.heap.size f r) := Lib.hid ⟨by simpa [World.setCell] using C.out.1, (World.cell?_setCell_other _ _ _ _ (by simp)).trans C.out.2.1, (World.cell?_setCell_other _ _ _ _ (by simp)).trans C.out.2.2⟩
        generalize (accTo f r k).contains d = bd at *
        go_wp2_with fail
        go_roundw
        case rel => exact ⟨k + 1, by omega, by omega, rfl, R2, B2, C2⟩
        case measure => simp [intOf]; omega
    · have hke : k = f.size + r.size := by omega
      have t1 : decide ((k : Int) < (f.size : Int) + (r.size : Int)) = false := decide_eq_false (by omega)
      rw [hke] at R
      clear hke
      go_wp2_with fail
      obtain ⟨A, hA⟩ : ∃ A, A = accTo f r (f.size + r.size) := ⟨_, rfl⟩
      have hAB := HBD.out (f.size + r.size)
      rw [← hA] at R hAB
      have HG : Hid (upTo A 61 = gapsL f r) := Lib.hid (by rw [upTo_gaps hAB, hA]; rfl)
      have sz : Hid (w.heap.size + 2 ≤ wr.heap.size) := Lib.hid (by have := R.out.lt; omega)
      have BW := Lib.hid B.out
      clear hA hAB HBD B C c0 c1
      generalize wr = W2 at *
      go_loopw [5, 6] (fun v i wx => ∃ d : Nat, 1 ≤ d ∧ d ≤ 61 ∧ i = .int .i64 d ∧ Hid (wx.ownsRow (w.heap.size + 2) 3 1 v (upTo A d).length ((upTo A d).map encI)) ∧ Hid (Below (w.heap.size + 2) W2 wx)) (fun _ i _ => 61 - (intOf i).toNat)
      case atStart => exact ⟨1, Nat.le_refl _, by omega, rfl, Lib.hid (World.ownsRow_nil _ _ _ _), Lib.hid (Below.refl _ _)⟩
      case round =>
        obtain ⟨d, hd1, hd2, rfl, hown, hbel⟩ := hrel
        by_cases hd : d ≤ 60
        · have t2 : decide ((d : Int) ≤ 60) = true := decide_eq_true (by omega)
          have e2 : (0 : Int) ≤ (d : Int) := by omega
          have e3 : (d : Int) < 61 := by omega
          have d61 : d < 61 := by omega
          have RR : Hid (Row wr (w.heap.size + 1) 104 (marksA A)) := Lib.hid (R.out.below hbel.out (by omega))
          have x0 : wr.cell? ⟨w.heap.size + 1, d, none⟩ = some (.bool (A.contains d)) := by rw [RR.out.cell, marksA_get _ _ d61]
          have US := Lib.hid (upTo_succ A d hd1)
          have UL : (upTo A d).length ≤ d := by unfold upTo; exact Nat.le_trans (List.length_filter_le _ _) (by simp)
          cases hc : A.contains d
          · rw [hc] at x0 US
            have US2 : Hid (upTo A (d + 1) = upTo A d) := Lib.hid US.out
            clear US
            go_wp2_with fail
            go_roundw
            case rel => exact ⟨d + 1, by omega, by omega, rfl, by rw [US2.out]; exact hown, hbel⟩
            case measure => simp [intOf]; omega
          · rw [hc] at x0 US
            have US2 : Hid (upTo A (d + 1) = upTo A d ++ [d]) := Lib.hid US.out
            have HL : Hid ((upTo A d).map encI ++ [.int .i64 (d : Int)] = (upTo A (d + 1)).map encI) := Lib.hid (by rw [US2.out, List.map_append]; rfl)
            have HL2 : Hid ((upTo A d).length + 1 = (upTo A (d + 1)).length) := Lib.hid (by rw [US2.out, List.length_append]; rfl)
            have OWN := Lib.hid hown.out
            have BB := Lib.hid hbel.out
            have hs1 : Hid (w.heap.size + 2 ≤ wr.heap.size) := Lib.hid (Nat.le_trans sz.out hbel.out.size)
            clear US hown hbel US2
            go_wp2_with (first
              | (at_builtin; refine wpList_append_own _ rfl _ _ 45 rfl (w.heap.size + 2) 3 i0 (.int .i64 0) 1 8 Try.underlying45 HI.out H0.out H1.out H2.out rfl (by decide) _ _ _ rfl (OWN.out.alloc _) ⟨wr.heap.size, 0, none⟩ 1 1 [.int .i64 (d : Int)] rfl rfl ?c1 ?c2 ?c3 ?c4 ?c5 ?_))
            case c1 =>
              intro j u hj
              match j, hj with
              | 0, hj => simp at hj; subst hj; simp [Addr.add]
            case c2 => intro u hu; simp at hu; subst hu; rfl
            case c3 => unfold maxLen; omega
            case c4 => omega
            case c5 => have := hs1.out; simp; omega
            · intro v' w2 hown' hgrow _
              have R1 : Hid (w2.ownsRow (w.heap.size + 2) 3 1 v' (upTo A (d + 1)).length ((upTo A (d + 1)).map encI)) := Lib.hid (by
                rw [← HL.out, ← HL2.out]; exact hown')
              have R3 : Hid (Below (w.heap.size + 2) W2 w2) := Lib.hid ((BB.out.alloc hs1.out _).grown hgrow (by have := hs1.out; simp; omega) (fun j hj => (OWN.out.lt j hj).1))
              clear hown' hgrow OWN BB HL HL2
              go_wp2_with fail
              go_roundw
              case rel => exact ⟨d + 1, by omega, by omega, rfl, R1, R3⟩
              case measure => simp [intOf]; omega
        · have hd61 : d = 61 := by omega
          have t2 : decide ((d : Int) ≤ 60) = false := decide_eq_false (by omega)
          rw [hd61, HG.out] at hown
          have T9 := Lib.hid (BW.out.trans (hbel.out.mono (by omega)))
          clear hd61
          go_wp2_with fail
          exact bodyPost_ret (by simp [results, Try.results53, go_sem]) rfl ⟨_, rfl, hown.out, T9.out⟩
end Go.Proofs.Ytbhlddfjfcmncaa
