import Derived.Test.YtlemipnplgbckaaEA
import Derived.Laws.AppendOwn
import Derived.ChangeKeysEq
import Derived.Maps.RangeWalk
import Derived.Maps.OwnIn
import Derived.Maps.AppendAt
import Derived.RangeFuncNested
import Derived.RangeFuncBound
import Derived.RangeFuncCalls
import Derived.RangeFuncLeaves
import Derived.Shelf.Abstract
import Derived.Shelf.RegionOpen
import Derived.WalkKit
import Derived.WalkMore
import Derived.OwnWalkIn
import Derived.TacticsInMore
import Derived.LoopNIn
import Derived.LoopIn
import Derived.WalkSpells
import Derived.WalkLawsBesides
import Derived.BigQuiet
import Derived.Deep.QuietTactic
import Derived.Lib.Hide
import Derived.Deep.RegionHeld3
import Derived.StillTailTactics
import Derived.Deep.LoopGhost
import Derived.Maps.OwnSet
import Derived.Lib.IndexAny
import Derived.Sort.QuietThIn
import Derived.Sort.QuietTacIn
import Derived.Sort.BigQuietIn
import Derived.Laws.OwnMore
import Derived.DeepKeys4
import Derived.Maps.Views
import Derived.Maps.OwnOps
import Derived.Deep.DeepCutAuto
import Derived.Shelf.Bits.Mul64
import Derived.Shelf.LaysM
namespace Go.Proofs.Ytlemipnplgbckaa
open Go.RowKit Go.Shelf
attribute [local go_sem] Oper.semAt_some
set_option maxRecDepth 100000 in
set_option maxHeartbeats 4000000 in
theorem rEmpty_any (ps : List Pt) (v : Value) (w : World) (hv : SlP w v ps) (hl : ps.length ≤ 12) (hpb : ∀ p ∈ ps, Bd 20 p.1 ∧ Bd 20 p.2) :
    Calls Try.prog 47 #[v] w fun e w' => ∃ s, e = .returned s ∧ w'.ownsRow w.heap.size 71 3 s (emptyL ps).length (flatT (emptyL ps)) ∧ Below w.heap.size w w' := by
  obtain ⟨a, c, rfl, hc, hs⟩ := hv
  have HS := Lib.hid hs
  have HPB := Lib.hid hpb
  obtain ⟨n, hn⟩ : ∃ n, ps.length = n := ⟨_, rfl⟩
  have HN := Lib.hid hn
  rw [hn] at hl hc ⊢
  clear hs hn hpb
  have HRES := Lib.hid (show (trI n n).filter (empB ps) = emptyL ps by rw [trI_end]; unfold emptyL; rw [HN.out])
  go_enter Try.func47, Try.ntmps47
  go_wp2_with fail
  go_loopw [4, 3] (fun iv lv wi => ∃ i : Nat, i ≤ n ∧ iv = .int .i64 (i : Int) ∧ Hid (wi.ownsRow w.heap.size 71 3 lv ((trI n i).filter (empB ps)).length (flatT ((trI n i).filter (empB ps))) ∧ Below w.heap.size w wi)) (fun iv _ _ => (n - intOf iv).toNat)
  case atStart => exact ⟨0, by omega, rfl, Lib.hid ⟨by rw [trI_zero]; exact World.ownsRow_nil _ _ _ _, Below.refl _ _⟩⟩
  case round =>
    rename World => wi
    obtain ⟨i, hi, rfl, HB⟩ := hrel
    obtain ⟨ai, ci, rfl⟩ := ownT_slice HB.out.1
    have iw : IntKind.i64.wrap ((i : Int) + 1) = ((i + 1 : Nat) : Int) := by rw [i64_of _ (by omega) (by omega)]; omega
    generalize hLi : ((trI n i).filter (empB ps)).length = Li at *
    have HLi := Lib.hid hLi
    clear hLi
    by_cases hlt : i < n
    · have hd : decide ((i : Int) < (n : Int)) = true := decide_eq_true (by omega)
      have hdn : decide (i < n) = true := decide_eq_true hlt
      obtain ⟨g, o, rfl, hps⟩ : ∃ g o, a = some ⟨g, o, none⟩ ∧ PtsAt w g o ps := HS.out.resolve_left (fun e => by have := HN.out; rw [e] at this; simp at this; omega)
      have HPS := Lib.hid hps
      clear hps
      have HIL := Lib.hid hlt
      go_wp2_with fail
      go_loopw [5, 3] (fun jv lv wj => ∃ jj : Nat, jj ≤ n - (i + 1) ∧ jv = .int .i64 ((i + 1 + jj : Nat) : Int) ∧ Hid (wj.ownsRow w.heap.size 71 3 lv ((trI n i ++ trJ n i jj).filter (empB ps)).length (flatT ((trI n i ++ trJ n i jj).filter (empB ps))) ∧ Below w.heap.size w wj)) (fun jv _ _ => (n - intOf jv).toNat)
      case atStart => exact ⟨0, by omega, rfl, Lib.hid ⟨by rw [trJ_zero, List.append_nil, HLi.out]; exact HB.out.1, HB.out.2⟩⟩
      case round =>
        rename World => wj
        obtain ⟨jj, hj, rfl, HC⟩ := hrel
        obtain ⟨aj, cj, rfl⟩ := ownT_slice HC.out.1
        obtain ⟨j, hjj⟩ : ∃ j, i + 1 + jj = j := ⟨_, rfl⟩
        have HJ := Lib.hid hjj
        rw [hjj]
        generalize hLj : ((trI n i ++ trJ n i jj).filter (empB ps)).length = Lj at *
        have HLj := Lib.hid hLj
        clear hLj hjj
        have hj' : j ≤ n := by have := HJ.out; omega
        have HJJ := Lib.hid hj
        clear hj
        have jw : IntKind.i64.wrap ((j : Int) + 1) = ((j + 1 : Nat) : Int) := by rw [i64_of _ (by omega) (by omega)]; omega
        by_cases hjt : j < n
        · have hd2 : decide ((j : Int) < (n : Int)) = true := decide_eq_true (by omega)
          have hdn2 : decide (j < n) = true := decide_eq_true hjt
          go_wp2_with fail
          go_loopw [6, 3] (fun kv lv wk => ∃ kk : Nat, kk ≤ n - (j + 1) ∧ kv = .int .i64 ((j + 1 + kk : Nat) : Int) ∧ Hid (wk.ownsRow w.heap.size 71 3 lv ((trI n i ++ trJ n i jj ++ rowT (i, i + 1 + jj) kk).filter (empB ps)).length (flatT ((trI n i ++ trJ n i jj ++ rowT (i, i + 1 + jj) kk).filter (empB ps))) ∧ Below w.heap.size w wk)) (fun kv _ _ => (n - intOf kv).toNat)
          case atStart => exact ⟨0, by omega, rfl, Lib.hid ⟨by rw [rowT_zero, List.append_nil, HLj.out]; exact HC.out.1, HC.out.2⟩⟩
          case round =>
            rename World => wk
            obtain ⟨kk, hk, rfl, HD⟩ := hrel
            obtain ⟨ak, ck, rfl⟩ := ownT_slice HD.out.1
            obtain ⟨k, hkk⟩ : ∃ k, j + 1 + kk = k := ⟨_, rfl⟩
            have HK1 := Lib.hid hkk
            rw [hkk]
            obtain ⟨Tk, hTk⟩ : ∃ T, (trI n i ++ trJ n i jj ++ rowT (i, i + 1 + jj) kk).filter (empB ps) = T := ⟨_, rfl⟩
            have HTL := Lib.hid (show Tk.length ≤ 2000 by rw [← hTk]; exact trB_len hl hi (by have := HJJ.out; omega) (by omega))
            have HTK := Lib.hid hTk
            rw [hTk] at HD ⊢
            clear hTk hkk
            have hk' : k ≤ n := by have := HK1.out; omega
            have HKK := Lib.hid hk
            clear hk
            generalize hLk : Tk.length = Lk at *
            have HLk := Lib.hid hLk
            clear hLk
            have kw : IntKind.i64.wrap ((k : Int) + 1) = ((k + 1 : Nat) : Int) := by rw [i64_of _ (by omega) (by omega)]; omega
            by_cases hkt : k < n
            · have hd3 : decide ((k : Int) < (n : Int)) = true := decide_eq_true (by omega)
              have hdn3 : decide (k < n) = true := decide_eq_true hkt
              have n0 : (i : Int) < (n : Int) := by omega
              have n1 : (j : Int) < (n : Int) := by omega
              have n2 : (k : Int) < (n : Int) := by omega
              have HNI := Lib.hid (And.intro n0 (And.intro n1 n2))
              have HP0 := Lib.hid (fun W (hb : Below wk.heap.size wk W) => pt_cell HPS.out (Below.mono (Below.andThen HD.out.2 hb (Nat.le_refl _)) (Nat.le_refl _)) HN.out hlt)
              have HP1 := Lib.hid (fun W (hb : Below wk.heap.size wk W) => pt_cell HPS.out (Below.mono (Below.andThen HD.out.2 hb (Nat.le_refl _)) (Nat.le_refl _)) HN.out hjt)
              have HP2 := Lib.hid (fun W (hb : Below wk.heap.size wk W) => pt_cell HPS.out (Below.mono (Below.andThen HD.out.2 hb (Nat.le_refl _)) (Nat.le_refl _)) HN.out hkt)
              have d0 := pt_bd HPB.out HN.out hlt
              have d1 := pt_bd HPB.out HN.out hjt
              have d2 := pt_bd HPB.out HN.out hkt
              obtain ⟨M, q, hM1, hM2, hM3⟩ := thr_some (ptAt ps i) (ptAt ps j) (ptAt ps k)
              have hcb : q = true → CirB M := fun h => by
                rw [hM3 h]
                refine thC_bd d0 d1 d2 ?_
                have := hM2; rw [h] at this; simpa using this
              have HEND := Lib.hid (show empB ps (i, j, k) = okM q M ps n by rw [← HN.out]; exact okM_end hM2 hM3)
              have HCB := Lib.hid hcb
              have HSTEP := Lib.hid (fun (m : Nat) (h : m < n) => okM_step (q := q) (M := M) (ps := ps) (m := m) (by rw [HN.out]; exact h))
              generalize ptAt ps i = p0 at *
              generalize ptAt ps j = p1 at *
              generalize ptAt ps k = p2 at *
              obtain ⟨a0, b0⟩ := p0
              obtain ⟨a1, b1⟩ := p1
              obtain ⟨a2, b2⟩ := p2
              have HTH := Lib.hid (fun W : World => rThrough_any a0 b0 a1 b1 a2 b2 W d0.1 d0.2 d1.1 d1.2 d2.1 d2.2)
              rw [hM1, hM2, Bool.not_not] at HTH
              obtain ⟨m1, m2, m3, m4⟩ := M
              unfold Cir.V cirV at HTH
              dsimp only at HTH HP0 HP1 HP2
              clear hM1 hM2 hM3 hcb d0 d1 d2 n0 n1 n2
              go_wp2_with fail
              refine wp_region_box (by kernel_rfl) (by kernel_rfl) [33, 34, 35, 36, 37, 38, 39, 40, 41, 42, 43, 44, 45, 32, 46, 47, 7, 1000, 8] [(fun v => v = .slice (some ⟨g, o, none⟩) n c), (fun v => v = .int .i64 (i : Int)), (fun v => v = .pointer (some ⟨g, o + i * 2, none⟩)), (fun v => v = .agg #[.int .i64 a0, .int .i64 b0]), (fun v => v = .slice (some ⟨g, o, none⟩) n c), (fun v => v = .int .i64 (j : Int)), (fun v => v = .pointer (some ⟨g, o + j * 2, none⟩)), (fun v => v = .agg #[.int .i64 a1, .int .i64 b1]), (fun v => v = .slice (some ⟨g, o, none⟩) n c), (fun v => v = .int .i64 (k : Int)), (fun v => v = .pointer (some ⟨g, o + k * 2, none⟩)), (fun v => v = .agg #[.int .i64 a2, .int .i64 b2]), (fun v => v = .tuple #[.agg #[.int .i64 m1, .int .i64 m2, .int .i64 m3, .int .i64 m4], .bool q]), (fun v => v = .tuple #[.agg #[.int .i64 m1, .int .i64 m2, .int .i64 m3, .int .i64 m4], .bool q]), (fun v => v = .agg #[.int .i64 m1, .int .i64 m2, .int .i64 m3, .int .i64 m4]), (fun v => v = .bool q), (fun _ => True), (fun _ => True), (fun v => v = .bool q)] [none, none, none, none, none, none, none, none, none, none, none, none, none, none, none, none, some (46, [.int .i64 0, .int .i64 0, .int .i64 0, .int .i64 0], [.int .i64 m1, .int .i64 m2, .int .i64 m3, .int .i64 m4]), none, none] [none, none, none, none, none, none, none, none, none, none, none, none, none, none, none, none, none, some 16, none] 19 rfl (by kernel_rfl) ?tr ⟨_, (putAll_self _ _).symm, rfl⟩ ?steps ?fin
              case tr =>
                rintro i v h
                rcases i with _ | _ | _ | _ | _ | _ | _ | _ | _ | _ | _ | _ | _ | _ | _ | _ | _ | _ | _ | i
                all_goals first | trivial | (exfalso; rcases h with h | h <;> simp at h)
              case steps =>
                simp only [boxSteps, Nat.reduceAdd, Nat.zero_add, List.getD_cons_succ, List.getD_cons_zero]
                refine ⟨?_, ?_, ?_, ?_, ?_, ?_, ?_, ?_, ?_, ?_, ?_, ?_, ?_, ?_, ?_, ?_, ?_, ?_, ?_, trivial⟩
                · rintro vs W K hc hvl hw hK
                  obtain ⟨x0, x1, x2, x3, x4, x5, x6, x7, x8, x9, x10, x11, x12, x13, x14, x15, x16, x17, x18, rfl⟩ := len19 hvl
                  have HK := Lib.hid hK
                  have HC := Lib.hid hc
                  have HW := Lib.hid hw
                  clear hK hc hw hvl
                  simp only [putAll, Act.put, List.setIfInBounds_toArray, List.set_cons_succ, List.set_cons_zero, List.set_nil]
                  clear HW
                  go_wp2_with fail
                  have fin := HK.out (.slice (some ⟨g, o, none⟩) n c) W (Below.refl _ _) rfl
                  simp only [putAll, Act.put, List.setIfInBounds_toArray, List.set_cons_succ, List.set_cons_zero, List.set_nil] at fin
                  exact fin
                · rintro vs W K hc hvl hw hK
                  obtain ⟨x0, x1, x2, x3, x4, x5, x6, x7, x8, x9, x10, x11, x12, x13, x14, x15, x16, x17, x18, rfl⟩ := len19 hvl
                  have HK := Lib.hid hK
                  have HC := Lib.hid hc
                  have HW := Lib.hid hw
                  clear hK hc hw hvl
                  simp only [putAll, Act.put, List.setIfInBounds_toArray, List.set_cons_succ, List.set_cons_zero, List.set_nil]
                  clear HW
                  go_wp2_with fail
                  have fin := HK.out (.int .i64 (i : Int)) W (Below.refl _ _) rfl
                  simp only [putAll, Act.put, List.setIfInBounds_toArray, List.set_cons_succ, List.set_cons_zero, List.set_nil] at fin
                  exact fin
                · rintro vs W K hc hvl hw hK
                  obtain ⟨x0, x1, x2, x3, x4, x5, x6, x7, x8, x9, x10, x11, x12, x13, x14, x15, x16, x17, x18, rfl⟩ := len19 hvl
                  have HK := Lib.hid hK
                  have HC := Lib.hid hc
                  have HW := Lib.hid hw
                  clear hK hc hw hvl
                  obtain rfl : x0 = .slice (some ⟨g, o, none⟩) n c := box_get (HW.out ⟨0, .data⟩ (by simp) rfl) rfl
                  obtain rfl : x1 = .int .i64 (i : Int) := box_get (HW.out ⟨1, .data⟩ (by simp) rfl) rfl
                  simp only [putAll, Act.put, List.setIfInBounds_toArray, List.set_cons_succ, List.set_cons_zero, List.set_nil]
                  have hi1 := HNI.out.1
                  clear HW
                  go_wp2_with fail
                  have fin := HK.out (.pointer (some ⟨g, o + i * 2, none⟩)) W (Below.refl _ _) rfl
                  simp only [putAll, Act.put, List.setIfInBounds_toArray, List.set_cons_succ, List.set_cons_zero, List.set_nil] at fin
                  exact fin
                · rintro vs W K hc hvl hw hK
                  obtain ⟨x0, x1, x2, x3, x4, x5, x6, x7, x8, x9, x10, x11, x12, x13, x14, x15, x16, x17, x18, rfl⟩ := len19 hvl
                  have HK := Lib.hid hK
                  have HC := Lib.hid hc
                  have HW := Lib.hid hw
                  clear hK hc hw hvl
                  obtain rfl : x2 = .pointer (some ⟨g, o + i * 2, none⟩) := box_get (HW.out ⟨2, .data⟩ (by simp) rfl) rfl
                  simp only [putAll, Act.put, List.setIfInBounds_toArray, List.set_cons_succ, List.set_cons_zero, List.set_nil]
                  have d0 := (HP0.out W HC.out).1
                  have d1 := (HP0.out W HC.out).2
                  clear HW
                  go_wp2_with fail
                  have fin := HK.out (.agg #[.int .i64 a0, .int .i64 b0]) W (Below.refl _ _) rfl
                  simp only [putAll, Act.put, List.setIfInBounds_toArray, List.set_cons_succ, List.set_cons_zero, List.set_nil] at fin
                  exact fin
                · rintro vs W K hc hvl hw hK
                  obtain ⟨x0, x1, x2, x3, x4, x5, x6, x7, x8, x9, x10, x11, x12, x13, x14, x15, x16, x17, x18, rfl⟩ := len19 hvl
                  have HK := Lib.hid hK
                  have HC := Lib.hid hc
                  have HW := Lib.hid hw
                  clear hK hc hw hvl
                  simp only [putAll, Act.put, List.setIfInBounds_toArray, List.set_cons_succ, List.set_cons_zero, List.set_nil]
                  clear HW
                  go_wp2_with fail
                  have fin := HK.out (.slice (some ⟨g, o, none⟩) n c) W (Below.refl _ _) rfl
                  simp only [putAll, Act.put, List.setIfInBounds_toArray, List.set_cons_succ, List.set_cons_zero, List.set_nil] at fin
                  exact fin
                · rintro vs W K hc hvl hw hK
                  obtain ⟨x0, x1, x2, x3, x4, x5, x6, x7, x8, x9, x10, x11, x12, x13, x14, x15, x16, x17, x18, rfl⟩ := len19 hvl
                  have HK := Lib.hid hK
                  have HC := Lib.hid hc
                  have HW := Lib.hid hw
                  clear hK hc hw hvl
                  simp only [putAll, Act.put, List.setIfInBounds_toArray, List.set_cons_succ, List.set_cons_zero, List.set_nil]
                  clear HW
                  go_wp2_with fail
                  have fin := HK.out (.int .i64 (j : Int)) W (Below.refl _ _) rfl
                  simp only [putAll, Act.put, List.setIfInBounds_toArray, List.set_cons_succ, List.set_cons_zero, List.set_nil] at fin
                  exact fin
                · rintro vs W K hc hvl hw hK
                  obtain ⟨x0, x1, x2, x3, x4, x5, x6, x7, x8, x9, x10, x11, x12, x13, x14, x15, x16, x17, x18, rfl⟩ := len19 hvl
                  have HK := Lib.hid hK
                  have HC := Lib.hid hc
                  have HW := Lib.hid hw
                  clear hK hc hw hvl
                  obtain rfl : x4 = .slice (some ⟨g, o, none⟩) n c := box_get (HW.out ⟨4, .data⟩ (by simp) rfl) rfl
                  obtain rfl : x5 = .int .i64 (j : Int) := box_get (HW.out ⟨5, .data⟩ (by simp) rfl) rfl
                  simp only [putAll, Act.put, List.setIfInBounds_toArray, List.set_cons_succ, List.set_cons_zero, List.set_nil]
                  have hi1 := HNI.out.2.1
                  clear HW
                  go_wp2_with fail
                  have fin := HK.out (.pointer (some ⟨g, o + j * 2, none⟩)) W (Below.refl _ _) rfl
                  simp only [putAll, Act.put, List.setIfInBounds_toArray, List.set_cons_succ, List.set_cons_zero, List.set_nil] at fin
                  exact fin
                · rintro vs W K hc hvl hw hK
                  obtain ⟨x0, x1, x2, x3, x4, x5, x6, x7, x8, x9, x10, x11, x12, x13, x14, x15, x16, x17, x18, rfl⟩ := len19 hvl
                  have HK := Lib.hid hK
                  have HC := Lib.hid hc
                  have HW := Lib.hid hw
                  clear hK hc hw hvl
                  obtain rfl : x6 = .pointer (some ⟨g, o + j * 2, none⟩) := box_get (HW.out ⟨6, .data⟩ (by simp) rfl) rfl
                  simp only [putAll, Act.put, List.setIfInBounds_toArray, List.set_cons_succ, List.set_cons_zero, List.set_nil]
                  have d0 := (HP1.out W HC.out).1
                  have d1 := (HP1.out W HC.out).2
                  clear HW
                  go_wp2_with fail
                  have fin := HK.out (.agg #[.int .i64 a1, .int .i64 b1]) W (Below.refl _ _) rfl
                  simp only [putAll, Act.put, List.setIfInBounds_toArray, List.set_cons_succ, List.set_cons_zero, List.set_nil] at fin
                  exact fin
                · rintro vs W K hc hvl hw hK
                  obtain ⟨x0, x1, x2, x3, x4, x5, x6, x7, x8, x9, x10, x11, x12, x13, x14, x15, x16, x17, x18, rfl⟩ := len19 hvl
                  have HK := Lib.hid hK
                  have HC := Lib.hid hc
                  have HW := Lib.hid hw
                  clear hK hc hw hvl
                  simp only [putAll, Act.put, List.setIfInBounds_toArray, List.set_cons_succ, List.set_cons_zero, List.set_nil]
                  clear HW
                  go_wp2_with fail
                  have fin := HK.out (.slice (some ⟨g, o, none⟩) n c) W (Below.refl _ _) rfl
                  simp only [putAll, Act.put, List.setIfInBounds_toArray, List.set_cons_succ, List.set_cons_zero, List.set_nil] at fin
                  exact fin
                · rintro vs W K hc hvl hw hK
                  obtain ⟨x0, x1, x2, x3, x4, x5, x6, x7, x8, x9, x10, x11, x12, x13, x14, x15, x16, x17, x18, rfl⟩ := len19 hvl
                  have HK := Lib.hid hK
                  have HC := Lib.hid hc
                  have HW := Lib.hid hw
                  clear hK hc hw hvl
                  simp only [putAll, Act.put, List.setIfInBounds_toArray, List.set_cons_succ, List.set_cons_zero, List.set_nil]
                  clear HW
                  go_wp2_with fail
                  have fin := HK.out (.int .i64 (k : Int)) W (Below.refl _ _) rfl
                  simp only [putAll, Act.put, List.setIfInBounds_toArray, List.set_cons_succ, List.set_cons_zero, List.set_nil] at fin
                  exact fin
                · rintro vs W K hc hvl hw hK
                  obtain ⟨x0, x1, x2, x3, x4, x5, x6, x7, x8, x9, x10, x11, x12, x13, x14, x15, x16, x17, x18, rfl⟩ := len19 hvl
                  have HK := Lib.hid hK
                  have HC := Lib.hid hc
                  have HW := Lib.hid hw
                  clear hK hc hw hvl
                  obtain rfl : x8 = .slice (some ⟨g, o, none⟩) n c := box_get (HW.out ⟨8, .data⟩ (by simp) rfl) rfl
                  obtain rfl : x9 = .int .i64 (k : Int) := box_get (HW.out ⟨9, .data⟩ (by simp) rfl) rfl
                  simp only [putAll, Act.put, List.setIfInBounds_toArray, List.set_cons_succ, List.set_cons_zero, List.set_nil]
                  have hi1 := HNI.out.2.2
                  clear HW
                  go_wp2_with fail
                  have fin := HK.out (.pointer (some ⟨g, o + k * 2, none⟩)) W (Below.refl _ _) rfl
                  simp only [putAll, Act.put, List.setIfInBounds_toArray, List.set_cons_succ, List.set_cons_zero, List.set_nil] at fin
                  exact fin
                · rintro vs W K hc hvl hw hK
                  obtain ⟨x0, x1, x2, x3, x4, x5, x6, x7, x8, x9, x10, x11, x12, x13, x14, x15, x16, x17, x18, rfl⟩ := len19 hvl
                  have HK := Lib.hid hK
                  have HC := Lib.hid hc
                  have HW := Lib.hid hw
                  clear hK hc hw hvl
                  obtain rfl : x10 = .pointer (some ⟨g, o + k * 2, none⟩) := box_get (HW.out ⟨10, .data⟩ (by simp) rfl) rfl
                  simp only [putAll, Act.put, List.setIfInBounds_toArray, List.set_cons_succ, List.set_cons_zero, List.set_nil]
                  have d0 := (HP2.out W HC.out).1
                  have d1 := (HP2.out W HC.out).2
                  clear HW
                  go_wp2_with fail
                  have fin := HK.out (.agg #[.int .i64 a2, .int .i64 b2]) W (Below.refl _ _) rfl
                  simp only [putAll, Act.put, List.setIfInBounds_toArray, List.set_cons_succ, List.set_cons_zero, List.set_nil] at fin
                  exact fin
                · rintro vs W K hc hvl hw hK
                  obtain ⟨x0, x1, x2, x3, x4, x5, x6, x7, x8, x9, x10, x11, x12, x13, x14, x15, x16, x17, x18, rfl⟩ := len19 hvl
                  have HK := Lib.hid hK
                  have HC := Lib.hid hc
                  have HW := Lib.hid hw
                  clear hK hc hw hvl
                  obtain rfl : x3 = .agg #[.int .i64 a0, .int .i64 b0] := box_get (HW.out ⟨3, .data⟩ (by simp) rfl) rfl
                  obtain rfl : x7 = .agg #[.int .i64 a1, .int .i64 b1] := box_get (HW.out ⟨7, .data⟩ (by simp) rfl) rfl
                  obtain rfl : x11 = .agg #[.int .i64 a2, .int .i64 b2] := box_get (HW.out ⟨11, .data⟩ (by simp) rfl) rfl
                  simp only [putAll, Act.put, List.setIfInBounds_toArray, List.set_cons_succ, List.set_cons_zero, List.set_nil]
                  clear HW
                  go_wp2_with fail
                  refine (HTH.out W).mono ?_
                  rintro e W' ⟨rfl, hb'⟩
                  have HB' := Lib.hid hb'
                  clear hb'
                  go_wp2_with fail
                  have fin := HK.out (.tuple #[.agg #[.int .i64 m1, .int .i64 m2, .int .i64 m3, .int .i64 m4], .bool q]) W' HB'.out rfl
                  simp only [putAll, Act.put, List.setIfInBounds_toArray, List.set_cons_succ, List.set_cons_zero, List.set_nil] at fin
                  exact fin
                · rintro vs W K hc hvl hw hK
                  obtain ⟨x0, x1, x2, x3, x4, x5, x6, x7, x8, x9, x10, x11, x12, x13, x14, x15, x16, x17, x18, rfl⟩ := len19 hvl
                  have HK := Lib.hid hK
                  have HC := Lib.hid hc
                  have HW := Lib.hid hw
                  clear hK hc hw hvl
                  obtain rfl : x12 = .tuple #[.agg #[.int .i64 m1, .int .i64 m2, .int .i64 m3, .int .i64 m4], .bool q] := box_get (HW.out ⟨12, .data⟩ (by simp) rfl) rfl
                  simp only [putAll, Act.put, List.setIfInBounds_toArray, List.set_cons_succ, List.set_cons_zero, List.set_nil]
                  clear HW
                  go_wp2_with fail
                  have fin := HK.out (.tuple #[.agg #[.int .i64 m1, .int .i64 m2, .int .i64 m3, .int .i64 m4], .bool q]) W (Below.refl _ _) rfl
                  simp only [putAll, Act.put, List.setIfInBounds_toArray, List.set_cons_succ, List.set_cons_zero, List.set_nil] at fin
                  exact fin
                · rintro vs W K hc hvl hw hK
                  obtain ⟨x0, x1, x2, x3, x4, x5, x6, x7, x8, x9, x10, x11, x12, x13, x14, x15, x16, x17, x18, rfl⟩ := len19 hvl
                  have HK := Lib.hid hK
                  have HC := Lib.hid hc
                  have HW := Lib.hid hw
                  clear hK hc hw hvl
                  obtain rfl : x13 = .tuple #[.agg #[.int .i64 m1, .int .i64 m2, .int .i64 m3, .int .i64 m4], .bool q] := box_get (HW.out ⟨13, .data⟩ (by simp) rfl) rfl
                  simp only [putAll, Act.put, List.setIfInBounds_toArray, List.set_cons_succ, List.set_cons_zero, List.set_nil]
                  clear HW
                  go_wp2_with fail
                  have fin := HK.out (.agg #[.int .i64 m1, .int .i64 m2, .int .i64 m3, .int .i64 m4]) W (Below.refl _ _) rfl
                  simp only [putAll, Act.put, List.setIfInBounds_toArray, List.set_cons_succ, List.set_cons_zero, List.set_nil] at fin
                  exact fin
                · rintro vs W K hc hvl hw hK
                  obtain ⟨x0, x1, x2, x3, x4, x5, x6, x7, x8, x9, x10, x11, x12, x13, x14, x15, x16, x17, x18, rfl⟩ := len19 hvl
                  have HK := Lib.hid hK
                  have HC := Lib.hid hc
                  have HW := Lib.hid hw
                  clear hK hc hw hvl
                  obtain rfl : x13 = .tuple #[.agg #[.int .i64 m1, .int .i64 m2, .int .i64 m3, .int .i64 m4], .bool q] := box_get (HW.out ⟨13, .data⟩ (by simp) rfl) rfl
                  simp only [putAll, Act.put, List.setIfInBounds_toArray, List.set_cons_succ, List.set_cons_zero, List.set_nil]
                  clear HW
                  go_wp2_with fail
                  have fin := HK.out (.bool q) W (Below.refl _ _) rfl
                  simp only [putAll, Act.put, List.setIfInBounds_toArray, List.set_cons_succ, List.set_cons_zero, List.set_nil] at fin
                  exact fin
                · rintro vs W K hc hvl hw hK
                  obtain ⟨x0, x1, x2, x3, x4, x5, x6, x7, x8, x9, x10, x11, x12, x13, x14, x15, x16, x17, x18, rfl⟩ := len19 hvl
                  have HK := Lib.hid hK
                  have HC := Lib.hid hc
                  have HW := Lib.hid hw
                  clear hK hc hw hvl
                  simp only [putAll, Act.put, List.setIfInBounds_toArray, List.set_cons_succ, List.set_cons_zero, List.set_nil]
                  clear HW
                  go_wp2_with fail
                  have fin := HK.out
                  simp only [putAll, Act.put, List.setIfInBounds_toArray, List.set_cons_succ, List.set_cons_zero, List.set_nil] at fin
                  exact fin
                · rintro vs W K hc hvl hw b E z f hia hva hb0 hr hK
                  cases hia
                  obtain ⟨x0, x1, x2, x3, x4, x5, x6, x7, x8, x9, x10, x11, x12, x13, x14, x15, x16, x17, x18, rfl⟩ := len19 hvl
                  have HK := Lib.hid hK
                  have HC := Lib.hid hc
                  have HW := Lib.hid hw
                  clear hK hc hw hvl
                  obtain rfl : x14 = .agg #[.int .i64 m1, .int .i64 m2, .int .i64 m3, .int .i64 m4] := box_get (HW.out ⟨14, .data⟩ (by simp) rfl) rfl
                  obtain rfl : x16 = .pointer (some ⟨b, 0, none⟩) := Option.some.inj hva
                  simp only [putAll, Act.put, List.setIfInBounds_toArray, List.set_cons_succ, List.set_cons_zero, List.set_nil]
                  have kf0 := frozen_of_row W b 0 _ _ hr
                  have kc0 : W.cell? ⟨b, 0, none⟩ = some (.int .i64 0) := hr.cell 0
                  have kf1 := frozen_of_row W b 1 _ _ hr
                  have kc1 : W.cell? ⟨b, 1, none⟩ = some (.int .i64 0) := hr.cell 1
                  have kf2 := frozen_of_row W b 2 _ _ hr
                  have kc2 : W.cell? ⟨b, 2, none⟩ = some (.int .i64 0) := hr.cell 2
                  have kf3 := frozen_of_row W b 3 _ _ hr
                  have kc3 : W.cell? ⟨b, 3, none⟩ = some (.int .i64 0) := hr.cell 3
                  have HRW := Lib.hid hr
                  clear HW hr hva
                  go_wp2_with fail
                  have fin := HK.out _ (show Row _ b 46 [.int .i64 m1, .int .i64 m2, .int .i64 m3, .int .i64 m4] from by simpa using (show Row _ b 46 _ from ((((HRW.out.set 0 (.int .i64 m1)).set 1 (.int .i64 m2)).set 2 (.int .i64 m3)).set 3 (.int .i64 m4)))) (grown_put (grown_put (grown_put (grown_put (grown_self W _)))))
                  simp only [putAll, Act.put, List.setIfInBounds_toArray, List.set_cons_succ, List.set_cons_zero, List.set_nil] at fin
                  exact fin
                · rintro vs W K hc hvl hw hK
                  obtain ⟨x0, x1, x2, x3, x4, x5, x6, x7, x8, x9, x10, x11, x12, x13, x14, x15, x16, x17, x18, rfl⟩ := len19 hvl
                  have HK := Lib.hid hK
                  have HC := Lib.hid hc
                  have HW := Lib.hid hw
                  clear hK hc hw hvl
                  obtain rfl : x15 = .bool q := box_get (HW.out ⟨15, .data⟩ (by simp) rfl) rfl
                  simp only [putAll, Act.put, List.setIfInBounds_toArray, List.set_cons_succ, List.set_cons_zero, List.set_nil]
                  clear HW
                  go_wp2_with fail
                  have fin := HK.out (.bool q) W (Below.refl _ _) rfl
                  simp only [putAll, Act.put, List.setIfInBounds_toArray, List.set_cons_succ, List.set_cons_zero, List.set_nil] at fin
                  exact fin
              case fin =>
                rintro vs W hJ
                obtain ⟨x0, x1, x2, x3, x4, x5, x6, x7, x8, x9, x10, x11, x12, x13, x14, x15, x16, x17, x18, rfl⟩ := len19 hJ.ln
                obtain rfl : x18 = .bool q := box_get (hJ.val 18 rfl) rfl
                obtain ⟨b16, e16, hb16, hr16⟩ := hJ.box 16 _ _ _ rfl rfl
                obtain rfl : x16 = .pointer (some ⟨b16, 0, none⟩) := Option.some.inj e16
                replace hr16 : Row W b16 46 [.int .i64 m1, .int .i64 m2, .int .i64 m3, .int .i64 m4] := hr16
                have HR16 := Lib.hid hr16
                clear e16 hr16
                have HC := Lib.hid hJ.bl
                clear hJ
                simp only [putAll, Act.put, List.setIfInBounds_toArray, List.set_cons_succ, List.set_cons_zero, List.set_nil]
                have RM := Lib.hid HR16.out
                have BK := Lib.hid HC.out
                have HB16 := Lib.hid hb16
                clear HC HR16 hb16 HTH HP0 HP1 HP2 HNI
                go_wp2_with fail
                go_loopw [9, 8] (fun mv okv wm => ∃ m : Nat, m ≤ n ∧ mv = .int .i64 (m : Int) ∧ okv = .bool (okM q ⟨m1, m2, m3, m4⟩ ps m) ∧ Hid (Row wm b16 46 [.int .i64 m1, .int .i64 m2, .int .i64 m3, .int .i64 m4] ∧ Below wk.heap.size wk wm)) (fun mv _ _ => (n - intOf mv).toNat)
                case atStart => exact ⟨0, by omega, rfl, by rw [okM_zero], Lib.hid ⟨RM.out, BK.out⟩⟩
                case round =>
                  rename World => wm
                  obtain ⟨m, hm, rfl, rfl, HE⟩ := hrel
                  have mw : IntKind.i64.wrap ((m : Int) + 1) = ((m + 1 : Nat) : Int) := by rw [i64_of _ (by omega) (by omega)]; omega
                  by_cases hmt : m < n
                  · have hd4 : decide ((m : Int) < (n : Int)) = true := decide_eq_true (by omega)
                    have hdn4 : decide (m < n) = true := decide_eq_true hmt
                    have nm : (m : Int) < (n : Int) := by omega
                    have HNM := Lib.hid nm
                    obtain ⟨okn, hokn⟩ : ∃ b, okM q ⟨m1, m2, m3, m4⟩ ps (m + 1) = b := ⟨_, rfl⟩
                    have HON := Lib.hid hokn
                    have hsm := HSTEP.out m hmt
                    rw [hokn] at hsm
                    have HSM := Lib.hid hsm
                    clear hokn hsm
                    have HPM := Lib.hid (fun W (hb : Below wm.heap.size wm W) => pt_cell HPS.out (Below.andThen HD.out.2 (Below.andThen HE.out.2 hb (Nat.le_refl _)) (Nat.le_refl _)) HN.out hmt)
                    have HBM := Lib.hid (pt_bd HPB.out HN.out hmt)
                    have HMQ := Lib.hid (fun h : okM q ⟨m1, m2, m3, m4⟩ ps m = true => HCB.out (okM_q h))
                    have RMM := Lib.hid HE.out.1
                    have BMM := Lib.hid HE.out.2
                    have HWM := Lib.hid (fun (h : CirB ⟨m1, m2, m3, m4⟩) (W : World) => rWhere_any ⟨m1, m2, m3, m4⟩ (ptAt ps m).1 (ptAt ps m).2 W h HBM.out.1 HBM.out.2)
                    obtain ⟨E, hE⟩ : ∃ E, decide (0 ≤ whF ⟨m1, m2, m3, m4⟩ (ptAt ps m)) = E := ⟨_, rfl⟩
                    have HEE := Lib.hid (And.intro hE (show decide (whF ⟨m1, m2, m3, m4⟩ (ptAt ps m) ≥ 0) = E from hE))
                    rw [hE] at HSM
                    clear hE nm HE HBM
                    dsimp only at HWM
                    generalize okM q ⟨m1, m2, m3, m4⟩ ps m = ok at *
                    obtain ⟨⟨am, bm⟩, hpm⟩ : ∃ p, ptAt ps m = p := ⟨_, rfl⟩
                    rw [hpm] at HPM HWM HEE
                    clear hpm
                    dsimp only at HPM HWM
                    generalize whF ⟨m1, m2, m3, m4⟩ (am, bm) = wv at *
                    cases ok with
                    | false =>
                      obtain rfl : okn = false := by rw [HSM.out]; rfl
                      clear HMQ HWM HPM HNM HEE
                      go_wp2_with fail
                      refine wp_region_boxz (by kernel_rfl) (by kernel_rfl) [54, 55, 56, 57, 58, 59, 60, 61, 62, 63, 8] [(fun v => v = .bool false), (fun v => v = .bool false), (fun v => v = undef), (fun v => v = undef), (fun v => v = undef), (fun v => v = undef), (fun v => v = undef), (fun v => v = undef), (fun v => v = undef), (fun v => v = .bool false), (fun v => v = .bool false)] [none, none, none, none, none, none, none, none, none, none, none] [none, none, none, none, none, none, none, none, none, none, none] 11 rfl (by kernel_rfl) 10 (.bool false) (by kernel_rfl) ?tr ⟨_, (putAll_self _ _).symm, rfl, rfl⟩ ?steps ?fin
                      case tr =>
                        rintro i v h
                        rcases i with _ | _ | _ | _ | _ | _ | _ | _ | _ | _ | _ | i
                        all_goals first | trivial | (exfalso; rcases h with h | h <;> simp at h)
                      case steps =>
                        simp only [boxStepsZ, Nat.reduceAdd, Nat.zero_add, List.getD_cons_succ, List.getD_cons_zero]
                        refine ⟨?_, ?_, ?_, ?_, ?_, ?_, ?_, ?_, ?_, ?_, ?_, trivial⟩
                        · rintro vs W K hc hvl hkz hw hK
                          obtain ⟨x0, x1, x2, x3, x4, x5, x6, x7, x8, x9, x10, rfl⟩ := len11 hvl
                          have HK := Lib.hid hK
                          have HC := Lib.hid hc
                          have HW := Lib.hid hw
                          clear hK hc hw hvl
                          obtain rfl : x10 = .bool false := Option.some.inj (hkz (by decide))
                          clear hkz
                          simp only [putAll, Act.put, List.setIfInBounds_toArray, List.set_cons_succ, List.set_cons_zero]
                          clear HW
                          go_wp2_with fail
                          have fin := HK.out (.bool false) W (Below.refl _ _) rfl
                          simp only [putAll, Act.put, List.setIfInBounds_toArray, List.set_cons_succ, List.set_cons_zero] at fin
                          exact fin
                        · rintro vs W K hc hvl hkz hw hK
                          obtain ⟨x0, x1, x2, x3, x4, x5, x6, x7, x8, x9, x10, rfl⟩ := len11 hvl
                          have HK := Lib.hid hK
                          have HC := Lib.hid hc
                          have HW := Lib.hid hw
                          clear hK hc hw hvl
                          obtain rfl : x10 = .bool false := Option.some.inj (hkz (by decide))
                          clear hkz
                          obtain rfl : x0 = .bool false := box_get (HW.out ⟨0, .data⟩ (by simp) rfl) rfl
                          simp only [putAll, Act.put, List.setIfInBounds_toArray, List.set_cons_succ, List.set_cons_zero]
                          clear HW
                          go_wp2_with fail
                          have fin := HK.out (.bool false) W (Below.refl _ _) rfl
                          simp only [putAll, Act.put, List.setIfInBounds_toArray, List.set_cons_succ, List.set_cons_zero] at fin
                          exact fin
                        · rintro vs W K hc hvl hkz hw hK
                          obtain ⟨x0, x1, x2, x3, x4, x5, x6, x7, x8, x9, x10, rfl⟩ := len11 hvl
                          have HK := Lib.hid hK
                          have HC := Lib.hid hc
                          have HW := Lib.hid hw
                          clear hK hc hw hvl
                          obtain rfl : x10 = .bool false := Option.some.inj (hkz (by decide))
                          clear hkz
                          obtain rfl : x1 = .bool false := box_get (HW.out ⟨1, .guard⟩ (by simp) rfl) rfl
                          simp only [putAll, Act.put, List.setIfInBounds_toArray, List.set_cons_succ, List.set_cons_zero]
                          clear HW
                          go_wp2_with fail
                          have fin := HK.out (undef) W (Below.refl _ _) rfl
                          simp only [putAll, Act.put, List.setIfInBounds_toArray, List.set_cons_succ, List.set_cons_zero] at fin
                          exact fin
                        · rintro vs W K hc hvl hkz hw hK
                          obtain ⟨x0, x1, x2, x3, x4, x5, x6, x7, x8, x9, x10, rfl⟩ := len11 hvl
                          have HK := Lib.hid hK
                          have HC := Lib.hid hc
                          have HW := Lib.hid hw
                          clear hK hc hw hvl
                          obtain rfl : x10 = .bool false := Option.some.inj (hkz (by decide))
                          clear hkz
                          obtain rfl : x1 = .bool false := box_get (HW.out ⟨1, .guard⟩ (by simp) rfl) rfl
                          simp only [putAll, Act.put, List.setIfInBounds_toArray, List.set_cons_succ, List.set_cons_zero]
                          clear HW
                          go_wp2_with fail
                          have fin := HK.out (undef) W (Below.refl _ _) rfl
                          simp only [putAll, Act.put, List.setIfInBounds_toArray, List.set_cons_succ, List.set_cons_zero] at fin
                          exact fin
                        · rintro vs W K hc hvl hkz hw hK
                          obtain ⟨x0, x1, x2, x3, x4, x5, x6, x7, x8, x9, x10, rfl⟩ := len11 hvl
                          have HK := Lib.hid hK
                          have HC := Lib.hid hc
                          have HW := Lib.hid hw
                          clear hK hc hw hvl
                          obtain rfl : x10 = .bool false := Option.some.inj (hkz (by decide))
                          clear hkz
                          obtain rfl : x1 = .bool false := box_get (HW.out ⟨1, .guard⟩ (by simp) rfl) rfl
                          simp only [putAll, Act.put, List.setIfInBounds_toArray, List.set_cons_succ, List.set_cons_zero]
                          clear HW
                          go_wp2_with fail
                          have fin := HK.out (undef) W (Below.refl _ _) rfl
                          simp only [putAll, Act.put, List.setIfInBounds_toArray, List.set_cons_succ, List.set_cons_zero] at fin
                          exact fin
                        · rintro vs W K hc hvl hkz hw hK
                          obtain ⟨x0, x1, x2, x3, x4, x5, x6, x7, x8, x9, x10, rfl⟩ := len11 hvl
                          have HK := Lib.hid hK
                          have HC := Lib.hid hc
                          have HW := Lib.hid hw
                          clear hK hc hw hvl
                          obtain rfl : x10 = .bool false := Option.some.inj (hkz (by decide))
                          clear hkz
                          obtain rfl : x3 = undef := box_get (HW.out ⟨3, .data⟩ (by simp) rfl) rfl
                          obtain rfl : x4 = undef := box_get (HW.out ⟨4, .data⟩ (by simp) rfl) rfl
                          obtain rfl : x1 = .bool false := box_get (HW.out ⟨1, .guard⟩ (by simp) rfl) rfl
                          simp only [putAll, Act.put, List.setIfInBounds_toArray, List.set_cons_succ, List.set_cons_zero]
                          clear HW
                          go_wp2_with fail
                          have fin := HK.out (undef) W (Below.refl _ _) rfl
                          simp only [putAll, Act.put, List.setIfInBounds_toArray, List.set_cons_succ, List.set_cons_zero] at fin
                          exact fin
                        · rintro vs W K hc hvl hkz hw hK
                          obtain ⟨x0, x1, x2, x3, x4, x5, x6, x7, x8, x9, x10, rfl⟩ := len11 hvl
                          have HK := Lib.hid hK
                          have HC := Lib.hid hc
                          have HW := Lib.hid hw
                          clear hK hc hw hvl
                          obtain rfl : x10 = .bool false := Option.some.inj (hkz (by decide))
                          clear hkz
                          obtain rfl : x5 = undef := box_get (HW.out ⟨5, .data⟩ (by simp) rfl) rfl
                          obtain rfl : x1 = .bool false := box_get (HW.out ⟨1, .guard⟩ (by simp) rfl) rfl
                          simp only [putAll, Act.put, List.setIfInBounds_toArray, List.set_cons_succ, List.set_cons_zero]
                          clear HW
                          go_wp2_with fail
                          have fin := HK.out (undef) W (Below.refl _ _) rfl
                          simp only [putAll, Act.put, List.setIfInBounds_toArray, List.set_cons_succ, List.set_cons_zero] at fin
                          exact fin
                        · rintro vs W K hc hvl hkz hw hK
                          obtain ⟨x0, x1, x2, x3, x4, x5, x6, x7, x8, x9, x10, rfl⟩ := len11 hvl
                          have HK := Lib.hid hK
                          have HC := Lib.hid hc
                          have HW := Lib.hid hw
                          clear hK hc hw hvl
                          obtain rfl : x10 = .bool false := Option.some.inj (hkz (by decide))
                          clear hkz
                          obtain rfl : x2 = undef := box_get (HW.out ⟨2, .data⟩ (by simp) rfl) rfl
                          obtain rfl : x6 = undef := box_get (HW.out ⟨6, .data⟩ (by simp) rfl) rfl
                          obtain rfl : x1 = .bool false := box_get (HW.out ⟨1, .guard⟩ (by simp) rfl) rfl
                          simp only [putAll, Act.put, List.setIfInBounds_toArray, List.set_cons_succ, List.set_cons_zero]
                          clear HW
                          go_wp2_with fail
                          have fin := HK.out (undef) W (Below.refl _ _) rfl
                          simp only [putAll, Act.put, List.setIfInBounds_toArray, List.set_cons_succ, List.set_cons_zero] at fin
                          exact fin
                        · rintro vs W K hc hvl hkz hw hK
                          obtain ⟨x0, x1, x2, x3, x4, x5, x6, x7, x8, x9, x10, rfl⟩ := len11 hvl
                          have HK := Lib.hid hK
                          have HC := Lib.hid hc
                          have HW := Lib.hid hw
                          clear hK hc hw hvl
                          obtain rfl : x10 = .bool false := Option.some.inj (hkz (by decide))
                          clear hkz
                          obtain rfl : x7 = undef := box_get (HW.out ⟨7, .data⟩ (by simp) rfl) rfl
                          obtain rfl : x1 = .bool false := box_get (HW.out ⟨1, .guard⟩ (by simp) rfl) rfl
                          simp only [putAll, Act.put, List.setIfInBounds_toArray, List.set_cons_succ, List.set_cons_zero]
                          clear HW
                          go_wp2_with fail
                          have fin := HK.out (undef) W (Below.refl _ _) rfl
                          simp only [putAll, Act.put, List.setIfInBounds_toArray, List.set_cons_succ, List.set_cons_zero] at fin
                          exact fin
                        · rintro vs W K hc hvl hkz hw hK
                          obtain ⟨x0, x1, x2, x3, x4, x5, x6, x7, x8, x9, x10, rfl⟩ := len11 hvl
                          have HK := Lib.hid hK
                          have HC := Lib.hid hc
                          have HW := Lib.hid hw
                          clear hK hc hw hvl
                          obtain rfl : x10 = .bool false := Option.some.inj (hkz (by decide))
                          clear hkz
                          obtain rfl : x1 = .bool false := box_get (HW.out ⟨1, .data⟩ (by simp) rfl) rfl
                          obtain rfl : x8 = undef := box_get (HW.out ⟨8, .data⟩ (by simp) rfl) rfl
                          simp only [putAll, Act.put, List.setIfInBounds_toArray, List.set_cons_succ, List.set_cons_zero]
                          clear HW
                          go_wp2_with fail
                          have fin := HK.out (.bool false) W (Below.refl _ _) rfl
                          simp only [putAll, Act.put, List.setIfInBounds_toArray, List.set_cons_succ, List.set_cons_zero] at fin
                          exact fin
                        · rintro vs W K hc hvl hkz hw hK
                          obtain ⟨x0, x1, x2, x3, x4, x5, x6, x7, x8, x9, x10, rfl⟩ := len11 hvl
                          have HK := Lib.hid hK
                          have HC := Lib.hid hc
                          have HW := Lib.hid hw
                          clear hK hc hw hvl
                          clear hkz
                          obtain rfl : x9 = .bool false := box_get (HW.out ⟨9, .data⟩ (by simp) rfl) rfl
                          simp only [putAll, Act.put, List.setIfInBounds_toArray, List.set_cons_succ, List.set_cons_zero]
                          clear HW
                          go_wp2_with fail
                          have fin := HK.out (.bool false) W (Below.refl _ _) rfl
                          simp only [putAll, Act.put, List.setIfInBounds_toArray, List.set_cons_succ, List.set_cons_zero] at fin
                          exact fin
                      case fin =>
                        rintro vs W hJ
                        obtain ⟨x0, x1, x2, x3, x4, x5, x6, x7, x8, x9, x10, rfl⟩ := len11 hJ.ln
                        obtain rfl : x10 = .bool false := box_get (hJ.val 10 rfl) rfl
                        have HC := Lib.hid hJ.bl
                        clear hJ
                        simp only [putAll, Act.put, List.setIfInBounds_toArray, List.set_cons_succ, List.set_cons_zero]
                        go_wp2_with fail
                        exact ⟨⟨m + 1, by omega, rfl, by rw [HON.out], Lib.hid ⟨RMM.out.below HC.out RMM.out.lt, Below.andThen BMM.out HC.out (Nat.le_refl _)⟩⟩, by simp [intOf]; omega⟩
                    | true =>
                      have HWM2 := Lib.hid (fun W => HWM.out (HMQ.out rfl) W)
                      clear HMQ HWM
                      obtain rfl : okn = E := by rw [HSM.out]; simp
                      go_wp2_with fail
                      refine wp_region_boxz (by kernel_rfl) (by kernel_rfl) [54, 55, 56, 57, 58, 59, 60, 61, 62, 63, 8] [(fun v => v = .bool true), (fun v => v = .bool true), (fun v => v = .agg #[.int .i64 m1, .int .i64 m2, .int .i64 m3, .int .i64 m4]), (fun v => v = .slice (some ⟨g, o, none⟩) n c), (fun v => v = .int .i64 (m : Int)), (fun v => v = .pointer (some ⟨g, o + m * 2, none⟩)), (fun v => v = .agg #[.int .i64 am, .int .i64 bm]), (fun v => v = .int .i64 wv), (fun v => v = .bool okn), (fun v => v = .bool okn), (fun v => v = .bool okn)] [none, none, none, none, none, none, none, none, none, none, none] [none, none, none, none, none, none, none, none, none, none, none] 11 rfl (by kernel_rfl) 10 (.bool true) (by kernel_rfl) ?tr ⟨_, (putAll_self _ _).symm, rfl, rfl⟩ ?steps ?fin
                      case tr =>
                        rintro i v h
                        rcases i with _ | _ | _ | _ | _ | _ | _ | _ | _ | _ | _ | i
                        all_goals first | trivial | (exfalso; rcases h with h | h <;> simp at h)
                      case steps =>
                        simp only [boxStepsZ, Nat.reduceAdd, Nat.zero_add, List.getD_cons_succ, List.getD_cons_zero]
                        refine ⟨?_, ?_, ?_, ?_, ?_, ?_, ?_, ?_, ?_, ?_, ?_, trivial⟩
                        · rintro vs W K hc hvl hkz hw hK
                          obtain ⟨x0, x1, x2, x3, x4, x5, x6, x7, x8, x9, x10, rfl⟩ := len11 hvl
                          have HK := Lib.hid hK
                          have HC := Lib.hid hc
                          have HW := Lib.hid hw
                          clear hK hc hw hvl
                          obtain rfl : x10 = .bool true := Option.some.inj (hkz (by decide))
                          clear hkz
                          simp only [putAll, Act.put, List.setIfInBounds_toArray, List.set_cons_succ, List.set_cons_zero]
                          clear HW
                          go_wp2_with fail
                          have fin := HK.out (.bool true) W (Below.refl _ _) rfl
                          simp only [putAll, Act.put, List.setIfInBounds_toArray, List.set_cons_succ, List.set_cons_zero] at fin
                          exact fin
                        · rintro vs W K hc hvl hkz hw hK
                          obtain ⟨x0, x1, x2, x3, x4, x5, x6, x7, x8, x9, x10, rfl⟩ := len11 hvl
                          have HK := Lib.hid hK
                          have HC := Lib.hid hc
                          have HW := Lib.hid hw
                          clear hK hc hw hvl
                          obtain rfl : x10 = .bool true := Option.some.inj (hkz (by decide))
                          clear hkz
                          obtain rfl : x0 = .bool true := box_get (HW.out ⟨0, .data⟩ (by simp) rfl) rfl
                          simp only [putAll, Act.put, List.setIfInBounds_toArray, List.set_cons_succ, List.set_cons_zero]
                          clear HW
                          go_wp2_with fail
                          have fin := HK.out (.bool true) W (Below.refl _ _) rfl
                          simp only [putAll, Act.put, List.setIfInBounds_toArray, List.set_cons_succ, List.set_cons_zero] at fin
                          exact fin
                        · rintro vs W K hc hvl hkz hw hK
                          obtain ⟨x0, x1, x2, x3, x4, x5, x6, x7, x8, x9, x10, rfl⟩ := len11 hvl
                          have HK := Lib.hid hK
                          have HC := Lib.hid hc
                          have HW := Lib.hid hw
                          clear hK hc hw hvl
                          obtain rfl : x10 = .bool true := Option.some.inj (hkz (by decide))
                          clear hkz
                          obtain rfl : x1 = .bool true := box_get (HW.out ⟨1, .guard⟩ (by simp) rfl) rfl
                          simp only [putAll, Act.put, List.setIfInBounds_toArray, List.set_cons_succ, List.set_cons_zero]
                          have rr := RMM.out.below HC.out RMM.out.lt
                          have d0 := rr.cell 0
                          have d1 := rr.cell 1
                          have d2 := rr.cell 2
                          have d3 := rr.cell 3
                          simp only [List.getElem?_cons_zero, List.getElem?_cons_succ] at d0 d1 d2 d3
                          clear rr
                          clear HW
                          go_wp2_with fail
                          have fin := HK.out (.agg #[.int .i64 m1, .int .i64 m2, .int .i64 m3, .int .i64 m4]) W (Below.refl _ _) rfl
                          simp only [putAll, Act.put, List.setIfInBounds_toArray, List.set_cons_succ, List.set_cons_zero] at fin
                          exact fin
                        · rintro vs W K hc hvl hkz hw hK
                          obtain ⟨x0, x1, x2, x3, x4, x5, x6, x7, x8, x9, x10, rfl⟩ := len11 hvl
                          have HK := Lib.hid hK
                          have HC := Lib.hid hc
                          have HW := Lib.hid hw
                          clear hK hc hw hvl
                          obtain rfl : x10 = .bool true := Option.some.inj (hkz (by decide))
                          clear hkz
                          obtain rfl : x1 = .bool true := box_get (HW.out ⟨1, .guard⟩ (by simp) rfl) rfl
                          simp only [putAll, Act.put, List.setIfInBounds_toArray, List.set_cons_succ, List.set_cons_zero]
                          clear HW
                          go_wp2_with fail
                          have fin := HK.out (.slice (some ⟨g, o, none⟩) n c) W (Below.refl _ _) rfl
                          simp only [putAll, Act.put, List.setIfInBounds_toArray, List.set_cons_succ, List.set_cons_zero] at fin
                          exact fin
                        · rintro vs W K hc hvl hkz hw hK
                          obtain ⟨x0, x1, x2, x3, x4, x5, x6, x7, x8, x9, x10, rfl⟩ := len11 hvl
                          have HK := Lib.hid hK
                          have HC := Lib.hid hc
                          have HW := Lib.hid hw
                          clear hK hc hw hvl
                          obtain rfl : x10 = .bool true := Option.some.inj (hkz (by decide))
                          clear hkz
                          obtain rfl : x1 = .bool true := box_get (HW.out ⟨1, .guard⟩ (by simp) rfl) rfl
                          simp only [putAll, Act.put, List.setIfInBounds_toArray, List.set_cons_succ, List.set_cons_zero]
                          clear HW
                          go_wp2_with fail
                          have fin := HK.out (.int .i64 (m : Int)) W (Below.refl _ _) rfl
                          simp only [putAll, Act.put, List.setIfInBounds_toArray, List.set_cons_succ, List.set_cons_zero] at fin
                          exact fin
                        · rintro vs W K hc hvl hkz hw hK
                          obtain ⟨x0, x1, x2, x3, x4, x5, x6, x7, x8, x9, x10, rfl⟩ := len11 hvl
                          have HK := Lib.hid hK
                          have HC := Lib.hid hc
                          have HW := Lib.hid hw
                          clear hK hc hw hvl
                          obtain rfl : x10 = .bool true := Option.some.inj (hkz (by decide))
                          clear hkz
                          obtain rfl : x3 = .slice (some ⟨g, o, none⟩) n c := box_get (HW.out ⟨3, .data⟩ (by simp) rfl) rfl
                          obtain rfl : x4 = .int .i64 (m : Int) := box_get (HW.out ⟨4, .data⟩ (by simp) rfl) rfl
                          obtain rfl : x1 = .bool true := box_get (HW.out ⟨1, .guard⟩ (by simp) rfl) rfl
                          simp only [putAll, Act.put, List.setIfInBounds_toArray, List.set_cons_succ, List.set_cons_zero]
                          have hi1 := HNM.out
                          clear HW
                          go_wp2_with fail
                          have fin := HK.out (.pointer (some ⟨g, o + m * 2, none⟩)) W (Below.refl _ _) rfl
                          simp only [putAll, Act.put, List.setIfInBounds_toArray, List.set_cons_succ, List.set_cons_zero] at fin
                          exact fin
                        · rintro vs W K hc hvl hkz hw hK
                          obtain ⟨x0, x1, x2, x3, x4, x5, x6, x7, x8, x9, x10, rfl⟩ := len11 hvl
                          have HK := Lib.hid hK
                          have HC := Lib.hid hc
                          have HW := Lib.hid hw
                          clear hK hc hw hvl
                          obtain rfl : x10 = .bool true := Option.some.inj (hkz (by decide))
                          clear hkz
                          obtain rfl : x5 = .pointer (some ⟨g, o + m * 2, none⟩) := box_get (HW.out ⟨5, .data⟩ (by simp) rfl) rfl
                          obtain rfl : x1 = .bool true := box_get (HW.out ⟨1, .guard⟩ (by simp) rfl) rfl
                          simp only [putAll, Act.put, List.setIfInBounds_toArray, List.set_cons_succ, List.set_cons_zero]
                          have d0 := (HPM.out W HC.out).1
                          have d1 := (HPM.out W HC.out).2
                          clear HW
                          go_wp2_with fail
                          have fin := HK.out (.agg #[.int .i64 am, .int .i64 bm]) W (Below.refl _ _) rfl
                          simp only [putAll, Act.put, List.setIfInBounds_toArray, List.set_cons_succ, List.set_cons_zero] at fin
                          exact fin
                        · rintro vs W K hc hvl hkz hw hK
                          obtain ⟨x0, x1, x2, x3, x4, x5, x6, x7, x8, x9, x10, rfl⟩ := len11 hvl
                          have HK := Lib.hid hK
                          have HC := Lib.hid hc
                          have HW := Lib.hid hw
                          clear hK hc hw hvl
                          obtain rfl : x10 = .bool true := Option.some.inj (hkz (by decide))
                          clear hkz
                          obtain rfl : x2 = .agg #[.int .i64 m1, .int .i64 m2, .int .i64 m3, .int .i64 m4] := box_get (HW.out ⟨2, .data⟩ (by simp) rfl) rfl
                          obtain rfl : x6 = .agg #[.int .i64 am, .int .i64 bm] := box_get (HW.out ⟨6, .data⟩ (by simp) rfl) rfl
                          obtain rfl : x1 = .bool true := box_get (HW.out ⟨1, .guard⟩ (by simp) rfl) rfl
                          simp only [putAll, Act.put, List.setIfInBounds_toArray, List.set_cons_succ, List.set_cons_zero]
                          clear HW
                          go_wp2_with fail
                          refine (HWM2.out W).mono ?_
                          rintro e W' ⟨rfl, hb'⟩
                          have HB' := Lib.hid hb'
                          clear hb'
                          go_wp2_with fail
                          have fin := HK.out (.int .i64 wv) W' HB'.out rfl
                          simp only [putAll, Act.put, List.setIfInBounds_toArray, List.set_cons_succ, List.set_cons_zero] at fin
                          exact fin
                        · rintro vs W K hc hvl hkz hw hK
                          obtain ⟨x0, x1, x2, x3, x4, x5, x6, x7, x8, x9, x10, rfl⟩ := len11 hvl
                          have HK := Lib.hid hK
                          have HC := Lib.hid hc
                          have HW := Lib.hid hw
                          clear hK hc hw hvl
                          obtain rfl : x10 = .bool true := Option.some.inj (hkz (by decide))
                          clear hkz
                          obtain rfl : x7 = .int .i64 wv := box_get (HW.out ⟨7, .data⟩ (by simp) rfl) rfl
                          obtain rfl : x1 = .bool true := box_get (HW.out ⟨1, .guard⟩ (by simp) rfl) rfl
                          simp only [putAll, Act.put, List.setIfInBounds_toArray, List.set_cons_succ, List.set_cons_zero]
                          have e1 := HEE.out.1
                          have e2 := HEE.out.2
                          clear HW
                          go_wp2_with fail
                          have fin := HK.out (.bool okn) W (Below.refl _ _) rfl
                          simp only [putAll, Act.put, List.setIfInBounds_toArray, List.set_cons_succ, List.set_cons_zero] at fin
                          exact fin
                        · rintro vs W K hc hvl hkz hw hK
                          obtain ⟨x0, x1, x2, x3, x4, x5, x6, x7, x8, x9, x10, rfl⟩ := len11 hvl
                          have HK := Lib.hid hK
                          have HC := Lib.hid hc
                          have HW := Lib.hid hw
                          clear hK hc hw hvl
                          obtain rfl : x10 = .bool true := Option.some.inj (hkz (by decide))
                          clear hkz
                          obtain rfl : x1 = .bool true := box_get (HW.out ⟨1, .data⟩ (by simp) rfl) rfl
                          obtain rfl : x8 = .bool okn := box_get (HW.out ⟨8, .data⟩ (by simp) rfl) rfl
                          simp only [putAll, Act.put, List.setIfInBounds_toArray, List.set_cons_succ, List.set_cons_zero]
                          clear HW
                          go_wp2_with fail
                          have fin := HK.out (.bool okn) W (Below.refl _ _) rfl
                          simp only [putAll, Act.put, List.setIfInBounds_toArray, List.set_cons_succ, List.set_cons_zero] at fin
                          exact fin
                        · rintro vs W K hc hvl hkz hw hK
                          obtain ⟨x0, x1, x2, x3, x4, x5, x6, x7, x8, x9, x10, rfl⟩ := len11 hvl
                          have HK := Lib.hid hK
                          have HC := Lib.hid hc
                          have HW := Lib.hid hw
                          clear hK hc hw hvl
                          clear hkz
                          obtain rfl : x9 = .bool okn := box_get (HW.out ⟨9, .data⟩ (by simp) rfl) rfl
                          simp only [putAll, Act.put, List.setIfInBounds_toArray, List.set_cons_succ, List.set_cons_zero]
                          clear HW
                          go_wp2_with fail
                          have fin := HK.out (.bool okn) W (Below.refl _ _) rfl
                          simp only [putAll, Act.put, List.setIfInBounds_toArray, List.set_cons_succ, List.set_cons_zero] at fin
                          exact fin
                      case fin =>
                        rintro vs W hJ
                        obtain ⟨x0, x1, x2, x3, x4, x5, x6, x7, x8, x9, x10, rfl⟩ := len11 hJ.ln
                        obtain rfl : x10 = .bool okn := box_get (hJ.val 10 rfl) rfl
                        have HC := Lib.hid hJ.bl
                        clear hJ
                        simp only [putAll, Act.put, List.setIfInBounds_toArray, List.set_cons_succ, List.set_cons_zero]
                        go_wp2_with fail
                        exact ⟨⟨m + 1, by omega, rfl, by rw [HON.out], Lib.hid ⟨RMM.out.below HC.out RMM.out.lt, Below.andThen BMM.out HC.out (Nat.le_refl _)⟩⟩, by simp [intOf]; omega⟩
                  · have hd4 : decide ((m : Int) < (n : Int)) = false := decide_eq_false (by omega)
                    have hdn4 : decide (m < n) = false := decide_eq_false hmt
                    obtain rfl : m = n := by omega
                    obtain ⟨ok, hok⟩ : ∃ b, okM q ⟨m1, m2, m3, m4⟩ ps m = b := ⟨_, rfl⟩
                    have HOK := Lib.hid (HEND.out.trans hok)
                    rw [hok]
                    have HNX := Lib.hid (show (trI m i ++ trJ m i jj ++ rowT (i, i + 1 + jj) (kk + 1)).filter (empB ps) = Tk ++ if ok = true then [(i, j, k)] else [] by
                      rw [rowT_next, ← List.append_assoc, List.filter_append, HTK.out]
                      have e : ((i, i + 1 + jj).1, (i, i + 1 + jj).2, (i, i + 1 + jj).2 + 1 + kk) = (i, j, k) := by
                        show (i, i + 1 + jj, i + 1 + jj + 1 + kk) = (i, j, k)
                        rw [HJ.out, HK1.out]
                      rw [e, List.filter_cons, HOK.out]
                      cases ok <;> simp)
                    have BM := Lib.hid HE.out.2
                    have BW := Lib.hid (Below.andThen HD.out.2 HE.out.2 (Nat.le_refl _))
                    have HOW := Lib.hid (own_grow HD.out.1 HE.out.2)
                    clear hok HE HEND HSTEP HCB RM BK HB16 hm
                    cases ok with
                    | false =>
                      go_wp2_with fail
                      refine ⟨⟨kk + 1, by have := HK1.out; omega, by have := HK1.out; exact congrArg (Value.int .i64) (by omega), ?_⟩, by simp [intOf]; omega⟩
                      rw [HNX.out, if_neg (by simp), List.append_nil, HLk.out]
                      exact Lib.hid ⟨HOW.out, BW.out⟩
                    | true =>
                      obtain ⟨b3, r3⟩ := box_start wm 71 [.int .i64 (i : Int), .int .i64 (j : Int), .int .i64 (k : Int)]
                      have HOW3 := own_grow HOW.out b3
                      rw [← HLk.out] at HOW3
                      obtain ⟨v', W', e1, e2, e3⟩ := appT_one _ w.heap.size _ Tk (i, j, k) wm.heap.size HOW3 (Nat.le_trans BW.out.size b3.size) (by rw [HLk.out]; have := HTL.out; omega) r3
                      obtain ⟨a4, c4, rfl⟩ := ownT_slice e2
                      rw [HLk.out] at e1
                      have A4 := Lib.hid e1
                      have O4 := Lib.hid e2
                      have B4 := Lib.hid ((Below.andThen BW.out b3 (Nat.le_refl _)).trans e3)
                      generalize hL4 : (Tk ++ [(i, j, k)]).length = L4 at *
                      have HL4 := Lib.hid hL4
                      clear b3 r3 HOW3 e1 e2 e3 hL4
                      go_wp2_with (at_builtin; refine wpList_append_run rfl _ _ 39 rfl _ _ _ _ rfl rfl A4.out ?_)
                      refine ⟨⟨kk + 1, by have := HK1.out; omega, by have := HK1.out; exact congrArg (Value.int .i64) (by omega), ?_⟩, by simp [intOf]; omega⟩
                      rw [HNX.out, if_pos (by rfl), HL4.out]
                      exact Lib.hid ⟨O4.out, B4.out⟩
            · have hd3 : decide ((k : Int) < (n : Int)) = false := decide_eq_false (by omega)
              have hdn3 : decide (k < n) = false := decide_eq_false hkt
              obtain rfl : k = n := by omega
              have HNX := Lib.hid (show (trI k i ++ trJ k i (jj + 1)).filter (empB ps) = Tk by
                rw [trJ_next, ← List.append_assoc, ← HTK.out]
                have := HJ.out; have := HK1.out
                rw [show k - (i + 1 + jj + 1) = kk by omega])
              go_wp2_with fail
              refine ⟨⟨jj + 1, by have := HJ.out; omega, by have := HJ.out; exact congrArg (Value.int .i64) (by omega), ?_⟩, by simp [intOf]; omega⟩
              rw [HNX.out, HLk.out]
              exact HD
        · have hd2 : decide ((j : Int) < (n : Int)) = false := decide_eq_false (by omega)
          have hdn2 : decide (j < n) = false := decide_eq_false hjt
          obtain rfl : j = n := by omega
          have HNX := Lib.hid (show trI j (i + 1) = trI j i ++ trJ j i jj by
            rw [trI_next]
            have := HJ.out
            rw [show j - (i + 1) = jj by omega])
          go_wp2_with fail
          refine ⟨⟨i + 1, by omega, rfl, ?_⟩, by simp [intOf]; omega⟩
          rw [HNX.out, HLj.out]
          exact HC
    · have hd : decide ((i : Int) < (n : Int)) = false := decide_eq_false (by omega)
      have hdn : decide (i < n) = false := decide_eq_false hlt
      obtain rfl : i = n := by omega
      go_wp2_with fail
      refine bodyPost_ret (v := .slice ai Li ci) (by simp [results, Try.results47, go_sem]) rfl ⟨_, rfl, ?_, HB.out.2⟩
      rw [← HRES.out, HLi.out]
      exact HB.out.1
end Go.Proofs.Ytlemipnplgbckaa
