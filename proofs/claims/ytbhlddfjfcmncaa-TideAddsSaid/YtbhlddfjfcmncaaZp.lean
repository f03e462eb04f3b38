import Derived.Test.YtbhlddfjfcmncaaZn
import Derived.Test.YtbhlddfjfcmncaaZb
import Derived.Maps.OwnIn
import Derived.Maps.OwnSet
import Derived.RangeFuncNested
import Derived.RangeFuncBound
import Derived.RangeFuncCalls
import Derived.RangeFuncLeaves
import Derived.Shelf.Abstract
import Derived.Shelf.RegionOpen
import Derived.WalkKit
import Derived.OwnWalkIn
import Derived.TacticsInMore
import Derived.LoopNIn
import Derived.LoopIn
import Derived.WalkSpells
import Derived.WalkLawsBesides
import Derived.BigQuiet
import Derived.Deep.QuietTactic
import Derived.Lib.Hide
import Derived.Deep.RegionHeld3
import Derived.StillTailTactics
import Derived.Lib.MakeNoZero
import Derived.Laws.CopyOwn
import Derived.Deep.RegionLaw
import Derived.Deep.LoopGhost
import Derived.Deep.CutBlock
import Derived.Deep.DeepCutAuto
import Derived.Lib.IndexAny
namespace Go.Proofs.Ytbhlddfjfcmncaa
open Go.RowKit Go.Shelf
attribute [local go_sem] Oper.semAt_some
set_option maxRecDepth 100000 in
set_option maxHeartbeats 1000000 in
theorem joinedB_any (f r g s : ByteArray) (n : Nat) (fid : FuncId) (q : Bool → Bool → Bool) (w : World) (hr1 : 1 ≤ r.size) (hs1 : 1 ≤ s.size) (hn : n ≤ 1000000)
    (hcf : ∀ args w, (callFunc fid args).run Try.prog w = .ok (.enter fid args) w)
    (hq : ∀ (a b : Bool) (w : World), Calls Try.prog fid #[.bool a, .bool b] w fun e w' => e = .returned (.bool (q a b)) ∧ w = w') :
    Calls Try.prog 61 #[.agg #[.string f, .string r], .agg #[.string g, .string s], .int .i64 n, .func (.func fid) #[] #[]] w fun e w' => ∃ b, e = .returned (.slice (some ⟨b, 0, none⟩) n n) ∧ w.heap.size ≤ b ∧ Row w' b 4 ((hoursL (joinY f r g s q) n).map encBo) ∧ Below w.heap.size w w' := by
  have hmk := make_bools n hn
  have HQ := Lib.hid hq
  clear hq
  go_enter Try.func61, Try.ntmps61
  go_wp2_with fail
  clear hmk
  obtain ⟨W0, hW0⟩ : ∃ W0, W0 = (w.alloc (.cells #[.string f, .string r] 23)).alloc (.cells #[.string g, .string s] 23) := ⟨_, rfl⟩
  have hsz : W0.heap.size = w.heap.size + 2 := by rw [hW0, size_al, size_al]
  have c0 : W0.cell? ⟨w.heap.size, 0, none⟩ = some (.string f) := by rw [hW0]; simp [cell_al]
  have c1 : W0.cell? ⟨w.heap.size, 1, none⟩ = some (.string r) := by rw [hW0]; simp [cell_al]
  have c2 : W0.cell? ⟨w.heap.size + 1, 0, none⟩ = some (.string g) := by rw [hW0]; simp [cell_al]
  have c3 : W0.cell? ⟨w.heap.size + 1, 1, none⟩ = some (.string s) := by rw [hW0]; simp [cell_al]
  have B0 : Hid (Below w.heap.size w W0) := Lib.hid (by rw [hW0]; exact ((Below.refl _ _).alloc (Nat.le_refl _) _).alloc (by rw [size_al]; omega) _)
  rw [← hW0]
  have C := Lib.hid (And.intro c0 (And.intro c1 (And.intro c2 c3)))
  have Hsz := Lib.hid hsz
  clear hW0 c0 c1 c2 c3 hsz
  go_loopw [10, 15] (fun _ i wr => ∃ k : Nat, k ≤ n ∧ i = .int .i64 k ∧ Hid (Row wr (w.heap.size + 1 + 1) 4 (fillTo n k (.bool false) fun h => Value.bool (q (hasB f r h) (hasB g s h)))) ∧ Hid (Below (w.heap.size + 1 + 1) W0 wr)) (fun _ i _ => n - (intOf i).toNat)
  case atStart =>
    refine ⟨0, Nat.zero_le _, rfl, Lib.hid ?_, Lib.hid ?_⟩
    · rw [fillTo_zero]
      have := Row.new W0 4 (List.replicate n (.bool false))
      rw [Hsz.out] at this; exact this
    · exact (Below.refl _ _).alloc (by rw [Hsz.out]; omega) _
  case round =>
    obtain ⟨k, hk, rfl, hrow, hbel⟩ := hrel
    by_cases hlt : k < n
    · have SS' : Hid (∀ W, Below (w.heap.size + 1 + 1) wr W → Below (w.heap.size + 1 + 1) wr W ∧ W.cell? ⟨w.heap.size, 0, none⟩ = some (.string f) ∧ W.cell? ⟨w.heap.size, 1, none⟩ = some (.string r) ∧ W.cell? ⟨w.heap.size + 1, 0, none⟩ = some (.string g) ∧ W.cell? ⟨w.heap.size + 1, 1, none⟩ = some (.string s)) := Lib.hid (fun W h => by
        have hh := hbel.out.trans h
        exact ⟨h, below_at hh (by omega) C.out.1, below_at hh (by omega) C.out.2.1, below_at hh (by omega) C.out.2.2.1, below_at hh (by omega) C.out.2.2.2⟩)
      have LT := Lib.hid hrow.out.lt
      obtain ⟨v0, hv0⟩ := fillTo_get n k k (.bool false) (fun h => Value.bool (q (hasB f r h) (hasB g s h))) hlt
      have CF : Hid (∀ W, Below wr.heap.size wr W → W.cell? ⟨w.heap.size + 1 + 1, k, none⟩ = some v0 ∧ W.frozen? ⟨w.heap.size + 1 + 1, k, none⟩ = false) := Lib.hid (fun W h => by
        have hr := hrow.out.below h LT.out
        exact ⟨by rw [hr.cell, hv0], hr.frozen k⟩)
      clear hv0
      have T0 : Below wr.heap.size wr wr.drew := (Below.refl _ _).drew
      go_wp2_with fail
      go_region_held3 (fun W => Below (w.heap.size + 1 + 1) wr W ∧ W.cell? ⟨w.heap.size, 0, none⟩ = some (.string f) ∧ W.cell? ⟨w.heap.size, 1, none⟩ = some (.string r) ∧ W.cell? ⟨w.heap.size + 1, 0, none⟩ = some (.string g) ∧ W.cell? ⟨w.heap.size + 1, 1, none⟩ = some (.string s))
        (first
          | exact SS'.out _ (Below.mono (show Below wr.heap.size wr _ by assumption) (Nat.le_of_lt LT.out))
          | exact SS'.out _ ((show Below (w.heap.size + 1 + 1) wr _ from Below.mono (show Below wr.heap.size wr _ by assumption) (Nat.le_of_lt LT.out)).setCell (p := ⟨w.heap.size + 1 + 1, k, none⟩) (Nat.le_refl _) _))
        (first
          | (go_at_call 58; refine (has_any _ _ k _ (by assumption) (by omega)).mono ?_; rintro e w1 ⟨rfl, hb1⟩; have T1 : Below wr.heap.size wr w1 := Below.andThen (by assumption) hb1 (Nat.le_refl _); obtain ⟨cc1, ff1⟩ := CF.out _ T1; clear hb1)
          | (refine (HQ.out _ _ _).mono ?_; rintro e w2 ⟨rfl, rfl⟩))
      have R2 : Hid (Row (w1.setCell ⟨w.heap.size + 1 + 1, k, none⟩ (.bool (q (hasB f r k) (hasB g s k)))) (w.heap.size + 1 + 1) 4 (fillTo n (k + 1) (.bool false) fun h => Value.bool (q (hasB f r h) (hasB g s h)))) := Lib.hid (by
        have h := (hrow.out.below T1 LT.out).set k (Value.bool (q (hasB f r k) (hasB g s k)))
        rw [fillTo_set n k (.bool false) (fun h => Value.bool (q (hasB f r h) (hasB g s h)))] at h; exact h)
      have T2 : Hid (Below (w.heap.size + 1 + 1) W0 w1) := Lib.hid (hbel.out.trans (T1.mono (Nat.le_of_lt LT.out)))
      clear T1 T0 cc1 ff1
      go_wp2_with fail
      go_roundw
      case rel => exact ⟨k + 1, by omega, rfl, R2, Lib.hid (T2.out.setCell (p := ⟨w.heap.size + 1 + 1, k, none⟩) (Nat.le_refl _) _)⟩
      case measure => simp [intOf]; omega
    · obtain rfl : k = n := by omega
      go_wp2_with fail
      go_ret
      refine ⟨w.heap.size + 1 + 1, rfl, by omega, ?_, ?_⟩
      · have h := hrow.out
        rw [fillTo_full] at h
        unfold hoursL joinY; rw [List.map_map]; exact h
      · exact B0.out.trans (hbel.out.mono (by omega))

theorem differ_cl (a b : Bool) (w : World) : Calls Try.prog 62 #[.bool a, .bool b] w fun e w' => e = .returned (.bool (a != b)) ∧ w = w' := by
  go_enter Try.func62, Try.ntmps62
  go_wp2
  go_ret
  exact ⟨rfl, rfl⟩
theorem cf62 (args : Array Value) (w : World) : (callFunc 62 args).run Try.prog w = .ok (.enter 62 args) w := by kernel_rfl
set_option maxRecDepth 100000 in
set_option maxHeartbeats 1000000 in
theorem index_any (b o n c d : Nat) (l : List Bool) (w : World) (hn : l.length = n) (hl : n ≤ 1000000) (hat : AtBo w b o l) (hd : l[d]? = some true) (hno : ∀ i, i < d → l[i]? = some false) :
    Calls Try.prog 63 #[.slice (some ⟨b, o, none⟩) n c, .bool true] w fun e w' => e = .returned (.int .i64 d) ∧ w = w' := by
  have hdn : d < n := by rw [← hn]; exact (List.getElem?_eq_some_iff.1 hd).1
  have HA : Hid (∀ i, i < n → ∃ v, w.cell? ⟨b, o + i, none⟩ = some (.bool v) ∧ l[i]? = some v) := Lib.hid fun i hi => ⟨l[i], hat i (by omega), by rw [List.getElem?_eq_getElem (by omega)]⟩
  have HD := Lib.hid hd
  have HN := Lib.hid hno
  clear hat hd hno
  go_enter Try.func63, Try.ntmps63
  go_wp2_with fail
  go_loop [5, 8] (fun _ i => ∃ k : Nat, k ≤ d ∧ i = .int .i64 k) (fun _ i => n - (intOf i).toNat)
  case atStart => exact ⟨0, Nat.zero_le _, rfl⟩
  case round =>
    obtain ⟨k, hk, rfl⟩ := hrel
    obtain ⟨v, hv, hv2⟩ := HA.out k (by omega)
    have hlt : k < n := by omega
    by_cases hkd : k = d
    · subst hkd
      have : v = true := by have := HD.out; rw [hv2] at this; simpa using this
      subst this
      clear hv2
      go_wp2_with fail
      go_ret
      exact ⟨rfl, rfl⟩
    · have : v = false := by have := HN.out k (by omega); rw [hv2] at this; simpa using this
      subst this
      have hk2 : k + 1 ≤ d := by omega
      clear hv2
      go_wp2_with fail
      go_round
      case rel => exact ⟨k + 1, hk2, by go_num⟩
      case measure => simp [intOf]; omega
end Go.Proofs.Ytbhlddfjfcmncaa
