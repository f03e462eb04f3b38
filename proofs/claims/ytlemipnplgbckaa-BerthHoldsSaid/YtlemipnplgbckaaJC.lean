import Derived.Test.YtlemipnplgbckaaJP
import Derived.Test.YtlemipnplgbckaaMI
import Derived.Laws.AppendOwn
import Derived.ChangeKeysEq
import Derived.Maps.RangeWalk
import Derived.Maps.OwnIn
import Derived.Maps.AppendAt
import Derived.RangeFuncNested
import Derived.RangeFuncBound
import Derived.RangeFuncCalls
import Derived.RangeFuncLeaves
import Derived.Shelf.Abstract
import Derived.Shelf.RegionOpen
import Derived.WalkKit
import Derived.WalkMore
import Derived.OwnWalkIn
import Derived.TacticsInMore
import Derived.LoopNIn
import Derived.LoopIn
import Derived.WalkSpells
import Derived.WalkLawsBesides
import Derived.BigQuiet
import Derived.Deep.QuietTactic
import Derived.Lib.Hide
import Derived.Deep.RegionHeld3
import Derived.StillTailTactics
import Derived.Deep.LoopGhost
import Derived.Maps.OwnSet
import Derived.Lib.IndexAny
import Derived.Sort.QuietThIn
import Derived.Sort.QuietTacIn
import Derived.Sort.BigQuietIn
import Derived.Laws.OwnMore
import Derived.DeepKeys4
import Derived.Maps.Views
import Derived.Maps.OwnOps
import Derived.Deep.DeepCutAuto
import Derived.Shelf.Bits.Mul64
import Derived.Shelf.LaysM
namespace Go.Proofs.Ytlemipnplgbckaa
open Go.RowKit Go.Shelf
attribute [local go_sem] Oper.semAt_some
theorem idT_zero {n : Nat} {zs : List Int} {k : Nat} (h : idT n zs k = true) : 0 ≤ zs.getD k 0 := by
  unfold idT at h; simp at h; exact h.1
set_option maxRecDepth 100000 in
set_option maxHeartbeats 1000000 in
theorem areIndices_any (ps : List Pt) (zs : List Int) (u v : Value) (w : World) (hu : SlP w u ps) (hv : SlI w v zs) (hl : zs.length ≤ 1000) (hn : ps.length ≤ 1000) :
    Calls Try.prog 59 #[u, v] w fun e w' => e = .returned (.bool (idxOk ps.length zs)) ∧ Below w.heap.size w w' := by
  obtain ⟨a, c, rfl, hc, hs⟩ := hv
  obtain ⟨ap, cp, rfl, _, _⟩ := hu
  obtain ⟨n, hnn⟩ : ∃ n, ps.length = n := ⟨_, rfl⟩
  rw [hnn] at hn ⊢
  clear hnn
  have HS := Lib.hid hs
  have HH := Lib.hid (show idxOk n zs = idK n zs zs.length from rfl)
  have HBAD := Lib.hid (fun k (hk : k < zs.length) h => idK_bad (n := n) hk h)
  obtain ⟨m, hm⟩ : ∃ m, zs.length = m := ⟨_, rfl⟩
  have HM := Lib.hid hm
  rw [hm] at hl hc HBAD HH ⊢
  clear hs hm
  generalize idxOk n zs = H at *
  go_enter Try.func59, Try.ntmps59
  go_wp2_with fail
  go_loopw [10, 5] (fun iv lv wr => ∃ (k : Nat) (l : Int), k ≤ m ∧ iv = .int .i64 (k : Int) ∧ lv = .int .i64 l ∧ Hid ((k = 0 ∧ l = -1 ∨ 0 < k ∧ l = zs.getD (k - 1) 0 ∧ 0 ≤ l) ∧ idK n zs k = true ∧ Below w.heap.size w wr)) (fun iv _ _ => (m - intOf iv).toNat)
  case atStart => exact ⟨0, -1, by omega, rfl, rfl, Lib.hid ⟨.inl ⟨rfl, rfl⟩, rfl, Below.refl _ _⟩⟩
  case round =>
    obtain ⟨k, l, hk, rfl, rfl, HB⟩ := hrel
    have kw : IntKind.i64.wrap ((k : Int) + 1) = ((k + 1 : Nat) : Int) := by rw [i64_of _ (by omega) (by omega)]; omega
    by_cases hlt : k < m
    · have hd : decide ((k : Int) < (m : Int)) = true := decide_eq_true (by omega)
      have hdn : decide (k < m) = true := decide_eq_true hlt
      obtain ⟨b, o, rfl, hbl, hz⟩ : ∃ b o, a = some ⟨b, o, none⟩ ∧ b < w.heap.size ∧ IntsAt w b o zs := HS.out.resolve_left (fun e => by have := HM.out; rw [e] at this; simp at this; omega)
      have k0 := int_cell hz HB.out.2.2 hbl (show k < zs.length by rw [HM.out]; exact hlt)
      have HT := Lib.hid (idK_step n zs k)
      have HTT := Lib.hid (show idT n zs k = (decide (0 ≤ zs.getD k 0) && (decide (zs.getD k 0 < n) && (decide (k = 0) || decide (zs.getD (k - 1) 0 < zs.getD k 0)))) from rfl)
      have HF := Lib.hid (HBAD.out k hlt)
      have HNX := Lib.hid (show k + 1 - 1 = k by omega)
      clear hz hbl
      generalize idT n zs k = T at *
      obtain ⟨z, hz⟩ : ∃ z, zs.getD k 0 = z := ⟨_, rfl⟩
      have HZ := Lib.hid hz
      rw [hz] at k0 HTT
      clear hz
      by_cases c1 : z ≤ l
      · have e1 : decide (z ≤ l) = true := decide_eq_true c1
        have hT := Lib.hid (HF.out (by
          rw [HTT.out]
          rcases HB.out.1 with ⟨h0, hl0⟩ | ⟨h0, hl0, hl1⟩
          · rw [decide_eq_false (show ¬ 0 ≤ z by omega)]; rfl
          · rw [decide_eq_false (show ¬ k = 0 by omega), decide_eq_false (show ¬ zs.getD (k - 1) 0 < z by omega)]; simp))
        clear c1 HTT
        go_wp2_with fail
        go_ret
        exact ⟨ret_bool hT.out.symm, HB.out.2.2⟩
      · have e1 : decide (z ≤ l) = false := decide_eq_false c1
        by_cases c2 : z ≥ n
        · have e2 : decide (z ≥ n) = true := decide_eq_true c2
          have e2' : decide ((n : Int) ≤ z) = true := decide_eq_true c2
          have hT := Lib.hid (HF.out (by rw [HTT.out, decide_eq_false (show ¬ z < n by omega)]; simp))
          clear c1 c2 HTT
          go_wp2_with fail
          go_ret
          exact ⟨ret_bool hT.out.symm, HB.out.2.2⟩
        · have e2 : decide (z ≥ n) = false := decide_eq_false c2
          have e2' : decide ((n : Int) ≤ z) = false := decide_eq_false c2
          have hz0 : 0 ≤ z := by
            rcases HB.out.1 with ⟨h0, hl0⟩ | ⟨h0, hl0, hl1⟩ <;> omega
          have hT := Lib.hid (show idK n zs (k + 1) = true by
            rw [HT.out, HB.out.2.1, HTT.out, decide_eq_true hz0, decide_eq_true (show z < n by omega)]
            rcases HB.out.1 with ⟨h0, hl0⟩ | ⟨h0, hl0, hl1⟩
            · rw [decide_eq_true h0]; rfl
            · rw [decide_eq_true (show zs.getD (k - 1) 0 < z by omega)]; simp)
          have HZ0 := Lib.hid hz0
          clear c1 c2 HTT hz0
          go_wp2_with fail
          exact ⟨⟨k + 1, z, by omega, rfl, rfl, Lib.hid ⟨.inr ⟨by omega, by rw [HNX.out, HZ.out], HZ0.out⟩, hT.out, HB.out.2.2⟩⟩, by simp [intOf]; omega⟩
    · have hd : decide ((k : Int) < (m : Int)) = false := decide_eq_false (by omega)
      have hdn : decide (k < m) = false := decide_eq_false hlt
      obtain rfl : k = m := by omega
      have hT := Lib.hid (HH.out.trans HB.out.2.1)
      go_wp2_with fail
      go_ret
      exact ⟨ret_bool hT.out.symm, HB.out.2.2⟩
set_option maxRecDepth 100000 in
set_option maxHeartbeats 1000000 in
theorem checkAll_ok (ps : List Pt) (v : Value) (X Y D R : Int) (w : World) (hv : SlP w v ps) (he : chkP ps = true) :
    Calls Try.prog 56 #[v, .agg #[.int .i64 X, .int .i64 Y, .int .i64 D, .int .i64 R]] w fun e w' => e = .returned (.int .i64 (errC ⟨X, Y, D, R⟩)) ∧ Below w.heap.size w w' := by
  obtain ⟨⟨_, hl⟩, _⟩ := chkP_iff.1 he
  obtain ⟨ba, rb⟩ := box_start w 30 [.int .i64 X, .int .i64 Y, .int .i64 D, .int .i64 R]
  have HC := Lib.hid (Check_any ps v _ (hv.grow ba) (by omega))
  rw [errP_ok he] at HC
  have HK := Lib.hid (fun W : World => CheckCircle_any X Y D R W)
  obtain ⟨a, c, rfl, _⟩ := hv
  generalize ps.length = n at *
  generalize errC ⟨X, Y, D, R⟩ = E at *
  have BA := Lib.hid ba
  have RB := Lib.hid rb
  clear ba rb he hl
  go_enter Try.func56, Try.ntmps56
  go_wp2_with fail
  refine HC.out.mono ?_
  rintro e w1 ⟨rfl, hb⟩
  have BB := Lib.hid (Below.andThen BA.out hb (Nat.le_refl _))
  have rr := RB.out.below hb RB.out.lt
  have k0 := rr.cell 0
  have k1 := rr.cell 1
  have k2 := rr.cell 2
  have k3 := rr.cell 3
  simp only [List.getElem?_cons_zero, List.getElem?_cons_succ] at k0 k1 k2 k3
  clear hb HC BA RB rr
  go_wp2_with fail
  refine (HK.out w1).mono ?_
  rintro e w2 ⟨rfl, h2⟩
  have B2 := Lib.hid (Below.andThen BB.out h2 (Nat.le_refl _))
  clear h2
  go_wp2_with fail
  go_ret
  exact ⟨rfl, B2.out⟩
def onF (ps : List Pt) (C : Cir) : List Nat := whL ps (fun p => decide (whF C p = 0))
set_option maxRecDepth 100000 in
set_option maxHeartbeats 1000000 in
theorem On_ok (ps : List Pt) (v : Value) (X Y D R : Int) (w : World) (hv : SlP w v ps) (he : chkP ps = true) (hc : vaF ⟨X, Y, D, R⟩ = true) :
    Calls Try.prog 27 #[v, .agg #[.int .i64 X, .int .i64 Y, .int .i64 D, .int .i64 R]] w fun e w' => ∃ s, e = .returned (.tuple #[s, .int .i64 0]) ∧ w'.ownsRow w.heap.size 3 1 s (onF ps ⟨X, Y, D, R⟩).length ((onF ps ⟨X, Y, D, R⟩).map (fun n : Nat => encI (n : Int))) ∧ Below w.heap.size w w' := by
  obtain ⟨⟨_, hl⟩, hpb, _⟩ := chkP_iff.1 he
  obtain ⟨ba, rb⟩ := box_start w 30 [.int .i64 X, .int .i64 Y, .int .i64 D, .int .i64 R]
  have HC := Lib.hid (checkAll_ok ps v X Y D R _ (hv.grow ba) he)
  have hE : errC ⟨X, Y, D, R⟩ = 0 := by unfold errC; rw [if_pos hc]
  rw [hE] at HC
  have HG := Lib.hid (And.intro hv (And.intro hl (And.intro hpb (vaF_cirB hc))))
  have BA := Lib.hid ba
  have RB := Lib.hid rb
  obtain ⟨a, c, rfl, _⟩ := hv
  obtain ⟨n, hn⟩ : ∃ n, ps.length = n := ⟨_, rfl⟩
  rw [hn] at HC HG ⊢
  have HN := Lib.hid hn
  have q := RB.out
  have k0 := q.cell 0
  have k1 := q.cell 1
  have k2 := q.cell 2
  have k3 := q.cell 3
  simp only [List.getElem?_cons_zero, List.getElem?_cons_succ] at k0 k1 k2 k3
  clear ba rb he hl hpb hc hE hn q
  go_enter Try.func27, Try.ntmps27
  go_wp2_with fail
  refine HC.out.mono ?_
  rintro e w1 ⟨rfl, hb⟩
  have B1 := Lib.hid (Below.andThen BA.out hb (Nat.le_refl _))
  have R1 := Lib.hid (RB.out.below hb RB.out.lt)
  have HON := Lib.hid (which_any ps (.slice a n c) 71 #[.pointer (some ⟨w.heap.size, 0, none⟩)] (fun p => decide (whF ⟨X, Y, D, R⟩ p = 0)) w1 (HG.out.1.grow B1.out) (by rw [HN.out]; exact HG.out.2.1) (enters_of Try.func71 (by kernel_rfl) rfl)
    (fun W x y hb hm => on_any ⟨X, Y, D, R⟩ HG.out.2.2.2 x y (HG.out.2.2.1 _ hm).1 (HG.out.2.2.1 _ hm).2 w.heap.size W (R1.out.below hb R1.out.lt)))
  clear hb HC BA RB k0 k1 k2 k3
  go_wp2_with fail
  refine HON.out.mono ?_
  rintro e w2 ⟨s, rfl, ho, h2⟩
  obtain ⟨a2, c2, rfl⟩ := own_sl2 ho
  have HO := Lib.hid (owns_mono ho B1.out.size)
  have B2 := Lib.hid (Below.andThen B1.out h2 (Nat.le_refl _))
  clear ho h2
  go_wp2_with fail
  refine bodyPost_ret (v := .tuple #[.slice a2 (onF ps ⟨X, Y, D, R⟩).length c2, .int .i64 0]) (by simp [results, Try.results27, go_sem, onF]) rfl ⟨_, rfl, HO.out, B2.out⟩
set_option maxRecDepth 100000 in
set_option maxHeartbeats 1000000 in
theorem IsForce_ok (ps : List Pt) (v u : Value) (zs : List Int) (w : World) (hv : SlP w v ps) (he : chkP ps = true) (hu : SlI w u zs) (hzl : zs.length ≤ 1000) :
    Calls Try.prog 22 #[v, u] w fun e w' => e = .returned (.tuple #[.bool (riF ps zs), .int .i64 0]) ∧ Below w.heap.size w w' := by
  obtain ⟨⟨h1, hl⟩, hpb, _⟩ := chkP_iff.1 he
  have hne : ps ≠ [] := by intro e; rw [e] at h1; simp at h1
  have HC := Lib.hid (Check_any ps v w hv (by omega))
  rw [errP_ok he] at HC
  have HAI := Lib.hid (fun W (hb : Below w.heap.size w W) => areIndices_any ps zs v u W (hv.grow hb) (hu.grow hb) hzl (by omega))
  obtain ⟨c0, cs, hcs⟩ := sm_filter hne
  have HSM := Lib.hid (fun W (hb : Below w.heap.size w W) => smallest_any ps v W (hv.grow hb) hl hpb c0 cs hcs)
  have hsm : smC ps = minL c0 cs := by unfold smC; rw [hcs]
  rw [← hsm] at HSM
  have HCB := Lib.hid (circL_bd hpb _ (sm_spec hne).1)
  have HFO := Lib.hid (fun (f : List Nat) (hf : zs = f.map natI) (hin : ∀ i ∈ f, i < ps.length) W (hb : Below w.heap.size w W) => isForce_any ps v u (smC ps) f W (hv.grow hb) (by rw [← hf]; exact hu.grow hb) HCB.out hin hpb hl (by have := congrArg List.length hf; rw [List.length_map] at this; omega))
  have HRI := Lib.hid (show riF ps zs = (idxOk ps.length zs && fB ps (smC ps) (zs.map Int.toNat)) from rfl)
  have HZS := Lib.hid (fun h : idxOk ps.length zs = true => idx_nat h)
  obtain ⟨a, c, rfl, _⟩ := hv
  obtain ⟨a', c', rfl, _⟩ := hu
  clear hcs hsm h1 hl hpb hne he
  generalize riF ps zs = RR at *
  generalize smC ps = C at *
  obtain ⟨m1, m2, m3, m4⟩ := C
  unfold Cir.V cirV at HSM
  dsimp only at HSM HFO
  cases hix : idxOk ps.length zs with
  | false =>
    have HR := Lib.hid (show RR = false by rw [HRI.out, hix]; rfl)
    rw [hix] at HAI
    generalize ps.length = n at *
    generalize zs.length = n' at *
    clear hix hzl
    go_enter Try.func22, Try.ntmps22
    go_wp2_with fail
    refine HC.out.mono ?_
    rintro e w1 ⟨rfl, hb⟩
    have BB := Lib.hid hb
    clear hb HC
    go_wp2_with fail
    refine (HAI.out w1 BB.out).mono ?_
    rintro e w2 ⟨rfl, hb⟩
    have B2 := Lib.hid (Below.andThen BB.out hb (Nat.le_refl _))
    clear hb HAI
    go_wp2_with fail
    refine bodyPost_ret (v := .tuple #[.bool false, .int .i64 0]) (by simp [results, Try.results22, go_sem]) rfl ⟨by rw [HR.out], B2.out⟩
  | true =>
    obtain ⟨z1, z2⟩ := HZS.out hix
    have HR := Lib.hid (show RR = fB ps ⟨m1, m2, m3, m4⟩ (zs.map Int.toNat) by rw [HRI.out, hix]; rfl)
    have HFF := Lib.hid (HFO.out (zs.map Int.toNat) z1 z2)
    rw [← HR.out] at HFF
    rw [hix] at HAI
    generalize ps.length = n at *
    generalize zs.length = n' at *
    clear hix hzl z1 z2
    go_enter Try.func22, Try.ntmps22
    go_wp2_with fail
    refine HC.out.mono ?_
    rintro e w1 ⟨rfl, hb⟩
    have BB := Lib.hid hb
    clear hb HC
    go_wp2_with fail
    refine (HAI.out w1 BB.out).mono ?_
    rintro e w2 ⟨rfl, hb⟩
    have B2 := Lib.hid (Below.andThen BB.out hb (Nat.le_refl _))
    clear hb HAI
    go_wp2_with fail
    refine (HSM.out w2 B2.out).mono ?_
    rintro e w3 ⟨rfl, hb⟩
    have B3 := Lib.hid (Below.andThen B2.out hb (Nat.le_refl _))
    clear hb HSM
    go_wp2_with fail
    refine (HFF.out w3 B3.out).mono ?_
    rintro e w4 ⟨rfl, hb⟩
    have B4 := Lib.hid (Below.andThen B3.out hb (Nat.le_refl _))
    clear hb HFF
    go_wp2_with fail
    refine bodyPost_ret (v := .tuple #[.bool RR, .int .i64 0]) (by simp [results, Try.results22, go_sem]) rfl ⟨rfl, B4.out⟩
set_option maxRecDepth 100000 in
set_option maxHeartbeats 1000000 in
theorem given_any (X Y D R : Int) (w : World) : Calls Try.prog 46 #[.agg #[.int .i64 X, .int .i64 Y, .int .i64 D, .int .i64 R]] w fun e w' => e = .returned (.agg #[.int .i64 X, .int .i64 Y, .int .i64 D, .int .i64 R]) ∧ Below w.heap.size w w' := by
  go_enter Try.func46, Try.ntmps46
  go_wp2_with fail
  obtain ⟨V, hV, ra, rr, bV, hs⟩ := two_start w 46 30 [.int .i64 X, .int .i64 Y, .int .i64 D, .int .i64 R] [.int .i64 X, .int .i64 Y, .int .i64 D, .int .i64 R]
  rw [show (w.alloc (.cells #[.int .i64 X, .int .i64 Y, .int .i64 D, .int .i64 R] 46)).alloc (.cells #[.int .i64 X, .int .i64 Y, .int .i64 D, .int .i64 R] 30) = V from hV.symm]
  have v0 := rr.cell 0
  have v1 := rr.cell 1
  have v2 := rr.cell 2
  have v3 := rr.cell 3
  simp only [List.getElem?_cons_zero, List.getElem?_cons_succ] at v0 v1 v2 v3
  exact bodyPost_ret (v := .agg #[.int .i64 X, .int .i64 Y, .int .i64 D, .int .i64 R]) (by simp [results, Try.results46, go_sem, v0, v1, v2, v3]) rfl ⟨rfl, bV⟩
end Go.Proofs.Ytlemipnplgbckaa
