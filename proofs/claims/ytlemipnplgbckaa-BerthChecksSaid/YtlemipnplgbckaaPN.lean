import Derived.Test.YtlemipnplgbckaaPM
import Derived.Laws.AppendOwn
import Derived.ChangeKeysEq
import Derived.Maps.RangeWalk
import Derived.Maps.OwnIn
import Derived.Maps.AppendAt
import Derived.RangeFuncNested
import Derived.RangeFuncBound
import Derived.RangeFuncCalls
import Derived.RangeFuncLeaves
import Derived.Shelf.Abstract
import Derived.Shelf.RegionOpen
import Derived.WalkKit
import Derived.WalkMore
import Derived.OwnWalkIn
import Derived.TacticsInMore
import Derived.LoopNIn
import Derived.LoopIn
import Derived.WalkSpells
import Derived.WalkLawsBesides
import Derived.BigQuiet
import Derived.Deep.QuietTactic
import Derived.Lib.Hide
import Derived.Deep.RegionHeld3
import Derived.StillTailTactics
import Derived.Deep.LoopGhost
import Derived.Maps.OwnSet
import Derived.Lib.IndexAny
import Derived.Sort.QuietThIn
import Derived.Sort.QuietTacIn
import Derived.Sort.BigQuietIn
import Derived.Laws.OwnMore
import Derived.DeepKeys4
import Derived.Maps.Views
import Derived.Maps.OwnOps
import Derived.Laws.OwnMore
import Derived.Deep.DeepCutAuto
import Derived.ChangeKeysEq
namespace Go.Proofs.Ytlemipnplgbckaa
open Go.RowKit Go.Shelf
attribute [local go_sem] Oper.semAt_some
/-- the least measure of the first points -/
def lowK (m : Pt → Int) (ps : List Pt) (k : Nat) : Int := (ps.take k).foldl (fun a p => min a (m p)) (m (ptAt ps 0))
theorem lowK_step {m : Pt → Int} {ps : List Pt} {k : Nat} (h : k < ps.length) : lowK m ps (k + 1) = min (lowK m ps k) (m ps[k]) := by
  unfold lowK
  rw [List.take_succ_eq_append_getElem h, List.foldl_append]
  rfl
set_option maxRecDepth 100000 in
set_option maxHeartbeats 1000000 in
theorem least_err (ps : List Pt) (v : Value) (x y sx sy : Int) (G : FuncId) (w : World) (hv : SlP w v ps) (hl : ps.length ≤ 1000000) (k : Int) (he : errP ps = k) (hk : k ≠ 0) :
    Calls Try.prog 65 #[v, .agg #[.int .i64 x, .int .i64 y], .func (.func G) #[.agg #[.int .i64 sx, .int .i64 sy]] #[]] w fun e w' => e = .returned (.tuple #[.slice none 0 0, .int .i64 k]) ∧ Below w.heap.size w w' := by
  obtain ⟨V, hV, r1, r2, bV, hs⟩ := two_start w 28 91 [.int .i64 x, .int .i64 y] [.func (.func G) #[.agg #[.int .i64 sx, .int .i64 sy]] #[]]
  have HC := Lib.hid (Check_any ps v V (hv.grow bV) (by omega))
  rw [he] at HC
  have hd : (k != 0) = true := by simp; exact hk
  obtain ⟨a, c, rfl, _⟩ := hv
  generalize ps.length = n at *
  have BV := Lib.hid bV
  clear r1 r2 bV hs he hl hk
  go_enter Try.func65, Try.ntmps65
  go_wp2_with fail
  rw [show (w.alloc (.cells #[.int .i64 x, .int .i64 y] 28)).alloc (.cells #[.func (.func G) #[.agg #[.int .i64 sx, .int .i64 sy]] #[]] 91) = V from hV.symm]
  refine HC.out.mono ?_
  rintro e w1 ⟨rfl, hb⟩
  have BB := Lib.hid (Below.andThen BV.out hb (Nat.le_refl _))
  clear hb HC BV hV
  go_wp2_with fail
  refine bodyPost_ret (v := .tuple #[.slice none 0 0, .int .i64 k]) (by simp [results, Try.results65, go_sem]) rfl ⟨rfl, BB.out⟩
set_option maxRecDepth 100000 in
set_option maxHeartbeats 1000000 in
theorem least_bad (ps : List Pt) (v : Value) (x y sx sy : Int) (G : FuncId) (w : World) (hv : SlP w v ps) (he : chkP ps = true) (hp : okP (x, y) = false) :
    Calls Try.prog 65 #[v, .agg #[.int .i64 x, .int .i64 y], .func (.func G) #[.agg #[.int .i64 sx, .int .i64 sy]] #[]] w fun e w' => e = .returned (.tuple #[.slice none 0 0, .int .i64 1]) ∧ Below w.heap.size w w' := by
  obtain ⟨⟨hl1, hl⟩, hps, hnd⟩ := chkP_iff.1 he
  obtain ⟨V, hV, r1, r2, bV, hs⟩ := two_start w 28 91 [.int .i64 x, .int .i64 y] [.func (.func G) #[.agg #[.int .i64 sx, .int .i64 sy]] #[]]
  have HC := Lib.hid (Check_any ps v V (hv.grow bV) (by omega))
  rw [errP_ok he] at HC
  have HCP := Lib.hid (fun (W : World) => checkPairs_any [(x, y)] _ _ (slp_one W x y) (by simp))
  simp only [List.all_cons, List.all_nil, Bool.and_true, hp, Bool.false_eq_true, if_false] at HCP
  obtain ⟨a, c, rfl, _⟩ := hv
  generalize ps.length = n at *
  have BV := Lib.hid bV
  have R1 := Lib.hid r1
  clear r1 r2 bV hs he hl hl1 hps hnd hp
  go_enter Try.func65, Try.ntmps65
  go_wp2_with fail
  rw [show (w.alloc (.cells #[.int .i64 x, .int .i64 y] 28)).alloc (.cells #[.func (.func G) #[.agg #[.int .i64 sx, .int .i64 sy]] #[]] 91) = V from hV.symm]
  refine HC.out.mono ?_
  rintro e w1 ⟨rfl, hb⟩
  have BB := Lib.hid (Below.andThen BV.out hb (Nat.le_refl _))
  have rr := R1.out.below hb R1.out.lt
  have k0 := rr.cell 0
  have k1 := rr.cell 1
  simp only [List.getElem?_cons_zero, List.getElem?_cons_succ] at k0 k1
  clear rr hb HC BV hV R1
  go_wp2_with fail
  refine (HCP.out w1).mono ?_
  rintro e w2 ⟨rfl, hb⟩
  have BC := Lib.hid (Below.andThen BB.out (Below.andThen (Below.al (Below.refl _ _) (Nat.le_refl _) _) hb (Nat.le_refl _)) (Nat.le_refl _))
  clear hb HCP BB k0 k1
  go_wp2_with fail
  refine bodyPost_ret (v := .tuple #[.slice none 0 0, .int .i64 1]) (by simp [results, Try.results65, go_sem]) rfl ⟨rfl, BC.out⟩
set_option maxRecDepth 100000 in
set_option maxHeartbeats 400000 in
theorem least1_any (sx sy : Int) (G : FuncId) (x y M low : Int) (bf bl : Nat) (w : World) (rf : Row w bf 91 [.func (.func G) #[.agg #[.int .i64 sx, .int .i64 sy]] #[]]) (rl : Row w bl 3 [.int .i64 low])
    (hen : ∀ args W, (callFunc G args).run Try.prog W = .ok (.enter G args) W)
    (hg : ∀ W, Calls Try.prog G #[.agg #[.int .i64 sx, .int .i64 sy], .agg #[.int .i64 x, .int .i64 y]] W fun e w' => e = .returned (.int .i64 M) ∧ Below W.heap.size W w') :
    Calls Try.prog 97 #[.agg #[.int .i64 x, .int .i64 y], .pointer (some ⟨bf, 0, none⟩), .pointer (some ⟨bl, 0, none⟩)] w fun e w' => e = .returned (.bool (decide (M = low))) ∧ Below w.heap.size w w' := by
  obtain ⟨ba, rb⟩ := box_start w 28 [.int .i64 x, .int .i64 y]
  have BA := Lib.hid ba
  have RB := Lib.hid rb
  have RF := Lib.hid (rf.below ba rf.lt)
  have RL := Lib.hid (rl.below ba rl.lt)
  have HG := Lib.hid hg
  obtain ⟨E, hE⟩ : ∃ E, decide (M = low) = E := ⟨_, rfl⟩
  rw [hE]
  have HE := Lib.hid (show (M == low) = E by rw [← hE, Bool.eq_iff_iff]; simp)
  clear ba rb rf rl hg hE
  go_enter Try.func97, Try.ntmps97
  go_wp2_with fail
  generalize w.alloc (.cells [.int .i64 x, .int .i64 y].toArray 28) = V at *
  refine wp_region_box (by kernel_rfl) (by kernel_rfl) [5, 6, 7, 8, 9, 4] [(fun v => v = .func (.func G) #[.agg #[.int .i64 sx, .int .i64 sy]] #[]), (fun v => v = .agg #[.int .i64 x, .int .i64 y]), (fun v => v = .int .i64 M), (fun v => v = .int .i64 low), (fun v => v = .bool E), (fun v => v = .bool E)] [none, none, none, none, none, none] [none, none, none, none, none, none] 6 rfl (by kernel_rfl) ?tr ⟨[undef, undef, undef, undef, undef, .bool false], by simp only [putAll, Act.put, List.setIfInBounds_toArray, List.set_cons_succ, List.set_cons_zero], rfl⟩ ?steps ?fin
  case tr =>
    rintro i v h
    rcases i with _ | _ | _ | _ | _ | _ | i
    all_goals first | trivial | (exfalso; rcases h with h | h <;> simp at h)
  case steps =>
    simp only [boxSteps, Nat.reduceAdd, Nat.zero_add, List.getD_cons_succ, List.getD_cons_zero]
    refine ⟨?_, ?_, ?_, ?_, ?_, ?_, trivial⟩
    · rintro vs W K hc hvl hw hK
      obtain ⟨x0, x1, x2, x3, x4, x5, rfl⟩ := len6 hvl
      have HK := Lib.hid hK
      have HC := Lib.hid hc
      have HW := Lib.hid hw
      clear hK hc hw hvl
      simp only [putAll, Act.put, List.setIfInBounds_toArray, List.set_cons_succ, List.set_cons_zero]
      have rr := RF.out.below HC.out RF.out.lt
      have d0 := rr.cell 0
      simp only [List.getElem?_cons_zero] at d0
      clear rr
      clear HW
      go_wp2_with fail
      have fin := HK.out (.func (.func G) #[.agg #[.int .i64 sx, .int .i64 sy]] #[]) W (Below.refl _ _) rfl
      simp only [putAll, Act.put, List.setIfInBounds_toArray, List.set_cons_succ, List.set_cons_zero] at fin
      exact fin
    · rintro vs W K hc hvl hw hK
      obtain ⟨x0, x1, x2, x3, x4, x5, rfl⟩ := len6 hvl
      have HK := Lib.hid hK
      have HC := Lib.hid hc
      have HW := Lib.hid hw
      clear hK hc hw hvl
      simp only [putAll, Act.put, List.setIfInBounds_toArray, List.set_cons_succ, List.set_cons_zero]
      have rr := RB.out.below HC.out RB.out.lt
      have d0 := rr.cell 0
      have d1 := rr.cell 1
      simp only [List.getElem?_cons_zero, List.getElem?_cons_succ] at d0 d1
      clear rr
      clear HW
      go_wp2_with fail
      have fin := HK.out (.agg #[.int .i64 x, .int .i64 y]) W (Below.refl _ _) rfl
      simp only [putAll, Act.put, List.setIfInBounds_toArray, List.set_cons_succ, List.set_cons_zero] at fin
      exact fin
    · rintro vs W K hc hvl hw hK
      obtain ⟨x0, x1, x2, x3, x4, x5, rfl⟩ := len6 hvl
      have HK := Lib.hid hK
      have HC := Lib.hid hc
      have HW := Lib.hid hw
      clear hK hc hw hvl
      obtain rfl : x0 = .func (.func G) #[.agg #[.int .i64 sx, .int .i64 sy]] #[] := box_get (HW.out ⟨0, .data⟩ (by simp) rfl) rfl
      obtain rfl : x1 = .agg #[.int .i64 x, .int .i64 y] := box_get (HW.out ⟨1, .data⟩ (by simp) rfl) rfl
      simp only [putAll, Act.put, List.setIfInBounds_toArray, List.set_cons_succ, List.set_cons_zero]
      clear HW
      go_wp2_with fail
      refine (HG.out W).mono ?_
      rintro e W' ⟨rfl, hb'⟩
      have HB' := Lib.hid hb'
      clear hb'
      go_wp2_with fail
      have fin := HK.out (.int .i64 M) W' HB'.out rfl
      simp only [putAll, Act.put, List.setIfInBounds_toArray, List.set_cons_succ, List.set_cons_zero] at fin
      exact fin
    · rintro vs W K hc hvl hw hK
      obtain ⟨x0, x1, x2, x3, x4, x5, rfl⟩ := len6 hvl
      have HK := Lib.hid hK
      have HC := Lib.hid hc
      have HW := Lib.hid hw
      clear hK hc hw hvl
      simp only [putAll, Act.put, List.setIfInBounds_toArray, List.set_cons_succ, List.set_cons_zero]
      have rr := RL.out.below HC.out RL.out.lt
      have d0 := rr.cell 0
      simp only [List.getElem?_cons_zero] at d0
      clear rr
      clear HW
      go_wp2_with fail
      have fin := HK.out (.int .i64 low) W (Below.refl _ _) rfl
      simp only [putAll, Act.put, List.setIfInBounds_toArray, List.set_cons_succ, List.set_cons_zero] at fin
      exact fin
    · rintro vs W K hc hvl hw hK
      obtain ⟨x0, x1, x2, x3, x4, x5, rfl⟩ := len6 hvl
      have HK := Lib.hid hK
      have HC := Lib.hid hc
      have HW := Lib.hid hw
      clear hK hc hw hvl
      obtain rfl : x2 = .int .i64 M := box_get (HW.out ⟨2, .data⟩ (by simp) rfl) rfl
      obtain rfl : x3 = .int .i64 low := box_get (HW.out ⟨3, .data⟩ (by simp) rfl) rfl
      simp only [putAll, Act.put, List.setIfInBounds_toArray, List.set_cons_succ, List.set_cons_zero]
      have hE := HE.out
      clear HW
      go_wp2_with fail
      have fin := HK.out (.bool E) W (Below.refl _ _) rfl
      simp only [putAll, Act.put, List.setIfInBounds_toArray, List.set_cons_succ, List.set_cons_zero] at fin
      exact fin
    · rintro vs W K hc hvl hw hK
      obtain ⟨x0, x1, x2, x3, x4, x5, rfl⟩ := len6 hvl
      have HK := Lib.hid hK
      have HC := Lib.hid hc
      have HW := Lib.hid hw
      clear hK hc hw hvl
      obtain rfl : x4 = .bool E := box_get (HW.out ⟨4, .data⟩ (by simp) rfl) rfl
      simp only [putAll, Act.put, List.setIfInBounds_toArray, List.set_cons_succ, List.set_cons_zero]
      clear HW
      go_wp2_with fail
      have fin := HK.out (.bool E) W (Below.refl _ _) rfl
      simp only [putAll, Act.put, List.setIfInBounds_toArray, List.set_cons_succ, List.set_cons_zero] at fin
      exact fin
  case fin =>
    rintro vs W hJ
    obtain ⟨x0, x1, x2, x3, x4, x5, rfl⟩ := len6 hJ.ln
    obtain rfl : x5 = .bool E := box_get (hJ.val 5 rfl) rfl
    have HC := Lib.hid hJ.bl
    clear hJ
    simp only [putAll, Act.put, List.setIfInBounds_toArray, List.set_cons_succ, List.set_cons_zero]
    go_wp2_with fail
    go_ret
    exact ⟨rfl, Below.andThen BA.out HC.out (Nat.le_refl _)⟩
set_option maxRecDepth 100000 in
set_option maxHeartbeats 1000000 in
theorem least_ok (ps : List Pt) (v : Value) (x y sx sy : Int) (G : FuncId) (m : Pt → Int) (w : World) (hv : SlP w v ps) (he : chkP ps = true) (hp : okP (x, y) = true)
    (hen : ∀ args W, (callFunc G args).run Try.prog W = .ok (.enter G args) W)
    (hg : ∀ W a b, (a, b) ∈ ps → Calls Try.prog G #[.agg #[.int .i64 sx, .int .i64 sy], .agg #[.int .i64 a, .int .i64 b]] W fun e w' => e = .returned (.int .i64 (m (a, b))) ∧ Below W.heap.size W w') :
    Calls Try.prog 65 #[v, .agg #[.int .i64 x, .int .i64 y], .func (.func G) #[.agg #[.int .i64 sx, .int .i64 sy]] #[]] w fun e w' => ∃ s, e = .returned (.tuple #[s, .int .i64 0]) ∧
      w'.ownsRow w.heap.size 3 1 s (whL ps (fun p => decide (m p = lowK m ps ps.length))).length ((whL ps (fun p => decide (m p = lowK m ps ps.length))).map (fun n : Nat => encI (n : Int))) ∧ Below w.heap.size w w' := by
  obtain ⟨⟨hl1, hl⟩, hps, hnd⟩ := chkP_iff.1 he
  obtain ⟨V, hV, r1, r2, bV, hs⟩ := two_start w 28 91 [.int .i64 x, .int .i64 y] [.func (.func G) #[.agg #[.int .i64 sx, .int .i64 sy]] #[]]
  have HC := Lib.hid (Check_any ps v V (hv.grow bV) (by omega))
  rw [errP_ok he] at HC
  have HCP := Lib.hid (fun (W : World) => checkPairs_any [(x, y)] _ _ (slp_one W x y) (by simp))
  simp only [List.all_cons, List.all_nil, Bool.and_true, hp, if_true] at HCP
  have HSL := Lib.hid hv
  obtain ⟨a, c, rfl, hc, hpt⟩ := hv
  obtain ⟨g, o, rfl, hpa⟩ : ∃ g o, a = some ⟨g, o, none⟩ ∧ PtsAt w g o ps := hpt.resolve_left (fun e => by rw [e] at hl1; simp at hl1)
  have HPA := Lib.hid hpa
  have HG := Lib.hid hg
  have HL := Lib.hid hl
  obtain ⟨n, hn⟩ : ∃ n, ps.length = n := ⟨_, rfl⟩
  have HN := Lib.hid hn
  rw [hn] at hl hl1 hc HC HSL ⊢
  have BV := Lib.hid bV
  have R1 := Lib.hid r1
  have R2 := Lib.hid r2
  clear r1 r2 bV hs he hps hnd hp hpt hpa hg hn
  go_enter Try.func65, Try.ntmps65
  go_wp2_with fail
  rw [show (w.alloc (.cells #[.int .i64 x, .int .i64 y] 28)).alloc (.cells #[.func (.func G) #[.agg #[.int .i64 sx, .int .i64 sy]] #[]] 91) = V from hV.symm]
  refine HC.out.mono ?_
  rintro e w1 ⟨rfl, hb⟩
  have BB := Lib.hid (Below.andThen BV.out hb (Nat.le_refl _))
  have R12 := Lib.hid (R1.out.below hb R1.out.lt)
  have R22 := Lib.hid (R2.out.below hb R2.out.lt)
  have rr := R12.out
  have k0 := rr.cell 0
  have k1 := rr.cell 1
  simp only [List.getElem?_cons_zero, List.getElem?_cons_succ] at k0 k1
  clear rr hb HC BV hV R1 R2
  go_wp2_with fail
  refine (HCP.out w1).mono ?_
  rintro e w2 ⟨rfl, hb⟩
  have hb' := Below.andThen (Below.al (Below.refl _ _) (Nat.le_refl _) _) hb (Nat.le_refl _)
  have BC := Lib.hid (Below.andThen BB.out hb' (Nat.le_refl _))
  have R13 := Lib.hid (R12.out.below hb' R12.out.lt)
  have R23 := Lib.hid (R22.out.below hb' R22.out.lt)
  clear hb hb' HCP BB k0 k1 R12 R22
  go_wp2_with fail
  have m0 : 0 < ps.length := by rw [HN.out]; omega
  have hx0 := HPA.out.x 0 m0
  have hy0 := HPA.out.y 0 m0
  have hz0 := ptAt_lt m0
  have hm0 := HG.out
  have hgm := fun W => HG.out W ps[0].1 ps[0].2 (List.getElem_mem m0)
  generalize ps[0] = p0 at *
  obtain ⟨a0, b0⟩ := p0
  dsimp only at hx0 hy0 hgm
  have HP0 := Lib.hid (And.intro (fun W (hb : Below w.heap.size w W) => below_at hb HPA.out.lt hx0) (fun W (hb : Below w.heap.size w W) => below_at hb HPA.out.lt hy0))
  obtain ⟨M0, hM0⟩ : ∃ M0, m (a0, b0) = M0 := ⟨_, rfl⟩
  rw [hM0] at hgm
  have HM0 := Lib.hid (show lowK m ps 0 = M0 by unfold lowK; rw [hz0, ← hM0]; rfl)
  have HGM := Lib.hid hgm
  clear hx0 hy0 hz0 hm0 hgm hM0 m0
  simp only [Nat.zero_mul, Nat.add_zero] at HP0
  refine wp_region_box (by kernel_rfl) (by kernel_rfl) [24, 25, 26, 27, 28, 10, 1000] [(fun v => v = .func (.func G) #[.agg #[.int .i64 sx, .int .i64 sy]] #[]), (fun v => v = .slice (some ⟨g, o, none⟩) n c), (fun v => v = .pointer (some ⟨g, o, none⟩)), (fun v => v = .agg #[.int .i64 a0, .int .i64 b0]), (fun v => v = .int .i64 M0), (fun _ => True), (fun _ => True)] [none, none, none, none, none, some (3, [.int .i64 0], [.int .i64 M0]), none] [none, none, none, none, none, none, some 5] 7 rfl (by kernel_rfl) ?tr ⟨[undef, undef, undef, undef, undef, undef, undef], by simp only [putAll, Act.put, List.setIfInBounds_toArray, List.set_cons_succ, List.set_cons_zero, List.set_nil], rfl⟩ ?steps ?fin
  case tr =>
    rintro i v h
    rcases i with _ | _ | _ | _ | _ | _ | _ | i
    all_goals first | trivial | (exfalso; rcases h with h | h <;> simp at h)
  case steps =>
    simp only [boxSteps, Nat.reduceAdd, Nat.zero_add, List.getD_cons_succ, List.getD_cons_zero]
    refine ⟨?_, ?_, ?_, ?_, ?_, ?_, ?_, trivial⟩
    · rintro vs W K hc hvl hw hK
      obtain ⟨x0, x1, x2, x3, x4, x5, x6, rfl⟩ := len7 hvl
      have HK := Lib.hid hK
      have HC := Lib.hid hc
      have HW := Lib.hid hw
      clear hK hc hw hvl
      simp only [putAll, Act.put, List.setIfInBounds_toArray, List.set_cons_succ, List.set_cons_zero, List.set_nil]
      have rr := R23.out.below HC.out R23.out.lt
      have d0 := rr.cell 0
      simp only [List.getElem?_cons_zero] at d0
      clear rr
      clear HW
      go_wp2_with fail
      have fin := HK.out (.func (.func G) #[.agg #[.int .i64 sx, .int .i64 sy]] #[]) W (Below.refl _ _) rfl
      simp only [putAll, Act.put, List.setIfInBounds_toArray, List.set_cons_succ, List.set_cons_zero, List.set_nil] at fin
      exact fin
    · rintro vs W K hc hvl hw hK
      obtain ⟨x0, x1, x2, x3, x4, x5, x6, rfl⟩ := len7 hvl
      have HK := Lib.hid hK
      have HC := Lib.hid hc
      have HW := Lib.hid hw
      clear hK hc hw hvl
      simp only [putAll, Act.put, List.setIfInBounds_toArray, List.set_cons_succ, List.set_cons_zero, List.set_nil]
      clear HW
      go_wp2_with fail
      have fin := HK.out (.slice (some ⟨g, o, none⟩) n c) W (Below.refl _ _) rfl
      simp only [putAll, Act.put, List.setIfInBounds_toArray, List.set_cons_succ, List.set_cons_zero, List.set_nil] at fin
      exact fin
    · rintro vs W K hc hvl hw hK
      obtain ⟨x0, x1, x2, x3, x4, x5, x6, rfl⟩ := len7 hvl
      have HK := Lib.hid hK
      have HC := Lib.hid hc
      have HW := Lib.hid hw
      clear hK hc hw hvl
      obtain rfl : x1 = .slice (some ⟨g, o, none⟩) n c := box_get (HW.out ⟨1, .data⟩ (by simp) rfl) rfl
      simp only [putAll, Act.put, List.setIfInBounds_toArray, List.set_cons_succ, List.set_cons_zero, List.set_nil]
      have hi1 : (0 : Int) < (n : Int) := by omega
      clear HW
      go_wp2_with fail
      have fin := HK.out (.pointer (some ⟨g, o, none⟩)) W (Below.refl _ _) rfl
      simp only [putAll, Act.put, List.setIfInBounds_toArray, List.set_cons_succ, List.set_cons_zero, List.set_nil] at fin
      exact fin
    · rintro vs W K hc hvl hw hK
      obtain ⟨x0, x1, x2, x3, x4, x5, x6, rfl⟩ := len7 hvl
      have HK := Lib.hid hK
      have HC := Lib.hid hc
      have HW := Lib.hid hw
      clear hK hc hw hvl
      obtain rfl : x2 = .pointer (some ⟨g, o, none⟩) := box_get (HW.out ⟨2, .data⟩ (by simp) rfl) rfl
      simp only [putAll, Act.put, List.setIfInBounds_toArray, List.set_cons_succ, List.set_cons_zero, List.set_nil]
      have d0 := HP0.out.1 W (Below.andThen BC.out HC.out (Nat.le_refl _))
      have d1 := HP0.out.2 W (Below.andThen BC.out HC.out (Nat.le_refl _))
      clear HW
      go_wp2_with fail
      have fin := HK.out (.agg #[.int .i64 a0, .int .i64 b0]) W (Below.refl _ _) rfl
      simp only [putAll, Act.put, List.setIfInBounds_toArray, List.set_cons_succ, List.set_cons_zero, List.set_nil] at fin
      exact fin
    · rintro vs W K hc hvl hw hK
      obtain ⟨x0, x1, x2, x3, x4, x5, x6, rfl⟩ := len7 hvl
      have HK := Lib.hid hK
      have HC := Lib.hid hc
      have HW := Lib.hid hw
      clear hK hc hw hvl
      obtain rfl : x0 = .func (.func G) #[.agg #[.int .i64 sx, .int .i64 sy]] #[] := box_get (HW.out ⟨0, .data⟩ (by simp) rfl) rfl
      obtain rfl : x3 = .agg #[.int .i64 a0, .int .i64 b0] := box_get (HW.out ⟨3, .data⟩ (by simp) rfl) rfl
      simp only [putAll, Act.put, List.setIfInBounds_toArray, List.set_cons_succ, List.set_cons_zero, List.set_nil]
      clear HW
      go_wp2_with fail
      refine (HGM.out W).mono ?_
      rintro e W' ⟨rfl, hb'⟩
      have HB' := Lib.hid hb'
      clear hb'
      go_wp2_with fail
      have fin := HK.out (.int .i64 M0) W' HB'.out rfl
      simp only [putAll, Act.put, List.setIfInBounds_toArray, List.set_cons_succ, List.set_cons_zero, List.set_nil] at fin
      exact fin
    · rintro vs W K hc hvl hw hK
      obtain ⟨x0, x1, x2, x3, x4, x5, x6, rfl⟩ := len7 hvl
      have HK := Lib.hid hK
      have HC := Lib.hid hc
      have HW := Lib.hid hw
      clear hK hc hw hvl
      simp only [putAll, Act.put, List.setIfInBounds_toArray, List.set_cons_succ, List.set_cons_zero, List.set_nil]
      clear HW
      go_wp2_with fail
      have fin := HK.out
      simp only [putAll, Act.put, List.setIfInBounds_toArray, List.set_cons_succ, List.set_cons_zero, List.set_nil] at fin
      exact fin
    · rintro vs W K hc hvl hw b E z f hia hva hb0 hr hK
      cases hia
      obtain ⟨x0, x1, x2, x3, x4, x5, x6, rfl⟩ := len7 hvl
      have HK := Lib.hid hK
      have HC := Lib.hid hc
      have HW := Lib.hid hw
      clear hK hc hw hvl
      obtain rfl : x4 = .int .i64 M0 := box_get (HW.out ⟨4, .data⟩ (by simp) rfl) rfl
      obtain rfl : x5 = .pointer (some ⟨b, 0, none⟩) := Option.some.inj hva
      simp only [putAll, Act.put, List.setIfInBounds_toArray, List.set_cons_succ, List.set_cons_zero, List.set_nil]
      have kf0 := frozen_of_row W b 0 _ _ hr
      have kc0 : W.cell? ⟨b, 0, none⟩ = some (.int .i64 0) := hr.cell 0
      have HRW := Lib.hid hr
      clear HW hr hva
      go_wp2_with fail
      have fin := HK.out _ (show Row _ b 3 [.int .i64 M0] from by simpa using (show Row _ b 3 _ from (HRW.out.set 0 (.int .i64 M0)))) (grown_put (grown_self W _))
      simp only [putAll, Act.put, List.setIfInBounds_toArray, List.set_cons_succ, List.set_cons_zero, List.set_nil] at fin
      exact fin
  case fin =>
    rintro vs W hJ
    obtain ⟨x0, x1, x2, x3, x4, x5, x6, rfl⟩ := len7 hJ.ln
    obtain rfl : x0 = .func (.func G) #[.agg #[.int .i64 sx, .int .i64 sy]] #[] := box_get (hJ.val 0 rfl) rfl
    obtain rfl : x1 = .slice (some ⟨g, o, none⟩) n c := box_get (hJ.val 1 rfl) rfl
    obtain rfl : x2 = .pointer (some ⟨g, o, none⟩) := box_get (hJ.val 2 rfl) rfl
    obtain rfl : x3 = .agg #[.int .i64 a0, .int .i64 b0] := box_get (hJ.val 3 rfl) rfl
    obtain rfl : x4 = .int .i64 M0 := box_get (hJ.val 4 rfl) rfl
    obtain ⟨b5, e5, hb5, hr5⟩ := hJ.box 5 _ _ _ rfl rfl
    obtain rfl : x5 = .pointer (some ⟨b5, 0, none⟩) := Option.some.inj e5
    replace hr5 : Row W b5 3 [.int .i64 M0] := hr5
    have HR5 := Lib.hid hr5
    clear e5 hr5
    have HC := Lib.hid hJ.bl
    clear hJ
    simp only [putAll, Act.put, List.setIfInBounds_toArray, List.set_cons_succ, List.set_cons_zero, List.set_nil]
    have R14 := Lib.hid (R13.out.below HC.out R13.out.lt)
    have R24 := Lib.hid (R23.out.below HC.out R23.out.lt)
    have HB5 := Lib.hid hb5
    have BC4 := Lib.hid (Below.andThen BC.out HC.out (Nat.le_refl _))
    have R23S := Lib.hid R23.out.lt
    clear R13 R23 HGM
    clear HC hb5
    go_wp2_with fail
    have hb56 : w.heap.size + 1 < b5 := by have h1 := HB5.out; have h2 := R14.out.lt; have h3 := R23S.out; omega
    have HBX := Lib.hid hb56
    clear hb56
    rw [← HM0.out] at HR5
    go_loopw [31] (fun iv wr => ∃ k : Nat, k ≤ n ∧ iv = .int .i64 (k : Int) ∧ Hid (Below w.heap.size w wr ∧ Row wr (w.heap.size + 1) 91 [.func (.func G) #[.agg #[.int .i64 sx, .int .i64 sy]] #[]] ∧ Row wr b5 3 [.int .i64 (lowK m ps k)])) (fun iv _ => (n - intOf iv).toNat)
    case atStart => exact ⟨0, by omega, rfl, Lib.hid ⟨BC4.out, R24.out, HR5.out⟩⟩
    case round =>
      obtain ⟨k, hk, rfl, HB⟩ := hrel
      have kw : IntKind.i64.wrap ((k : Int) + 1) = ((k + 1 : Nat) : Int) := by rw [i64_of _ (by omega) (by omega)]; omega
      by_cases hlt : k < n
      · have hd : decide ((k : Int) < (n : Int)) = true := decide_eq_true (by omega)
        have hdn : decide (k < n) = true := decide_eq_true hlt
        have hlk : k < ps.length := by rw [HN.out]; exact hlt
        have hp2 := HPA.out.below HB.out.1 HPA.out.lt
        have k0 := hp2.x k hlk
        have k1 := hp2.y k hlk
        have HST := Lib.hid (lowK_step (m := m) hlk)
        have HGK0 := Lib.hid (fun W => HG.out W ps[k].1 ps[k].2 (List.getElem_mem hlk))
        clear hp2
        generalize ps[k] = pk at *
        clear hlk
        obtain ⟨ak, bk⟩ := pk
        dsimp only at k0 k1 HGK0
        obtain ⟨MK, hMK⟩ : ∃ MK, m (ak, bk) = MK := ⟨_, rfl⟩
        rw [hMK] at HST HGK0
        have HGK := HGK0
        clear HGK0 hMK
        have r5 := HB.out.2.2
        generalize lowK m ps k = LO at *
        obtain ⟨bp, rp⟩ := box_start wr 28 [.int .i64 ak, .int .i64 bk]
        have RLO := Lib.hid (r5.below bp r5.lt)
        have RFF := Lib.hid (HB.out.2.1.below bp HB.out.2.1.lt)
        have RPK := Lib.hid rp
        have BP := Lib.hid (Below.andThen HB.out.1 bp (Nat.le_refl _))
        clear r5 bp rp
        go_wp2_with fail
        generalize wr.alloc (.cells [.int .i64 ak, .int .i64 bk].toArray 28) = V at *
        refine (wpIn_wide (n := 4)).1 ?_
        refine wpIn_region_relcut 5 (by kernel_rfl) (by kernel_rfl) [35, 36, 37, 38, 39] [LitR (.int .i64 LO), LitR (.func (.func G) #[.agg #[.int .i64 sx, .int .i64 sy]] #[]), LitR (.agg #[.int .i64 ak, .int .i64 bk]), LitR (.int .i64 MK), LitR (.int .i64 (min LO MK))] (List.forall_mem_cons.2 ⟨LitR.stab _, (List.forall_mem_cons.2 ⟨LitR.stab _, (List.forall_mem_cons.2 ⟨LitR.stab _, (List.forall_mem_cons.2 ⟨LitR.stab _, (List.forall_mem_cons.2 ⟨LitR.stab _, (fun _ h => nomatch h)⟩)⟩)⟩)⟩)⟩) ⟨[u35, u36, u37, u38, u39], by simp only [putAll, Act.put, List.setIfInBounds_toArray, List.set_cons_succ, List.set_cons_zero], rfl⟩ ?steps ?fin
        case steps =>
          intro Q'
          simp only [relStepsIn, List.take_succ_cons, List.take_zero]
          refine ⟨?_, ?_, ?_, ?_, ?_, trivial⟩
          · rintro vs W K hc hvl hw hK
            obtain ⟨x0, x1, x2, x3, x4, rfl⟩ := len5 hvl
            have HK := Lib.hid hK
            have HC := Lib.hid hc
            have HW := Lib.hid hw
            clear hK hc hw hvl
            simp only [putAll, Act.put, List.setIfInBounds_toArray, List.set_cons_succ, List.set_cons_zero]
            have rr := RLO.out.below HC.out RLO.out.lt
            have d0 := rr.cell 0
            simp only [List.getElem?_cons_zero] at d0
            clear rr
            clear HW
            gi_wp2_with fail
            have fin := HK.out (.int .i64 LO) W (Below.refl _ _) rfl
            simp only [putAll, Act.put, List.setIfInBounds_toArray, List.set_cons_succ, List.set_cons_zero] at fin
            exact fin
          · rintro vs W K hc hvl hw hK
            obtain ⟨x0, x1, x2, x3, x4, rfl⟩ := len5 hvl
            have HK := Lib.hid hK
            have HC := Lib.hid hc
            have HW := Lib.hid hw
            clear hK hc hw hvl
            simp only [putAll, Act.put, List.setIfInBounds_toArray, List.set_cons_succ, List.set_cons_zero]
            have rr := RFF.out.below HC.out RFF.out.lt
            have d0 := rr.cell 0
            simp only [List.getElem?_cons_zero] at d0
            clear rr
            clear HW
            gi_wp2_with fail
            have fin := HK.out (.func (.func G) #[.agg #[.int .i64 sx, .int .i64 sy]] #[]) W (Below.refl _ _) rfl
            simp only [putAll, Act.put, List.setIfInBounds_toArray, List.set_cons_succ, List.set_cons_zero] at fin
            exact fin
          · rintro vs W K hc hvl hw hK
            obtain ⟨x0, x1, x2, x3, x4, rfl⟩ := len5 hvl
            have HK := Lib.hid hK
            have HC := Lib.hid hc
            have HW := Lib.hid hw
            clear hK hc hw hvl
            simp only [putAll, Act.put, List.setIfInBounds_toArray, List.set_cons_succ, List.set_cons_zero]
            have rr := RPK.out.below HC.out RPK.out.lt
            have d0 := rr.cell 0
            have d1 := rr.cell 1
            simp only [List.getElem?_cons_zero, List.getElem?_cons_succ] at d0 d1
            clear rr
            clear HW
            gi_wp2_with fail
            have fin := HK.out (.agg #[.int .i64 ak, .int .i64 bk]) W (Below.refl _ _) rfl
            simp only [putAll, Act.put, List.setIfInBounds_toArray, List.set_cons_succ, List.set_cons_zero] at fin
            exact fin
          · rintro vs W K hc hvl hw hK
            obtain ⟨x0, x1, x2, x3, x4, rfl⟩ := len5 hvl
            have HK := Lib.hid hK
            have HC := Lib.hid hc
            have HW := Lib.hid hw
            clear hK hc hw hvl
            have hd1 := HW.out ⟨1, .data⟩ (by simp) rfl
            obtain rfl : x1 = .func (.func G) #[.agg #[.int .i64 sx, .int .i64 sy]] #[] := rel_get hd1 rfl
            have hd2 := HW.out ⟨2, .data⟩ (by simp) rfl
            obtain rfl : x2 = .agg #[.int .i64 ak, .int .i64 bk] := rel_get hd2 rfl
            simp only [putAll, Act.put, List.setIfInBounds_toArray, List.set_cons_succ, List.set_cons_zero]
            clear HW hd1 hd2
            gi_wp2_with fail
            refine ⟨trivial, (callsIn_wide.2 (HGK.out W)).mono ?_⟩
            rintro e W' ⟨rfl, hb'⟩
            have HB' := Lib.hid hb'
            clear hb'
            gi_wp2_with fail
            have fin := HK.out (.int .i64 MK) W' HB'.out rfl
            simp only [putAll, Act.put, List.setIfInBounds_toArray, List.set_cons_succ, List.set_cons_zero] at fin
            exact fin
          · rintro vs W K hc hvl hw hK
            obtain ⟨x0, x1, x2, x3, x4, rfl⟩ := len5 hvl
            have HK := Lib.hid hK
            have HC := Lib.hid hc
            have HW := Lib.hid hw
            clear hK hc hw hvl
            have hd0 := HW.out ⟨0, .data⟩ (by simp) rfl
            obtain rfl : x0 = .int .i64 LO := rel_get hd0 rfl
            have hd3 := HW.out ⟨3, .data⟩ (by simp) rfl
            obtain rfl : x3 = .int .i64 MK := rel_get hd3 rfl
            simp only [putAll, Act.put, List.setIfInBounds_toArray, List.set_cons_succ, List.set_cons_zero]
            clear HW hd0 hd3
            gi_wp2_with fail
            have fin := HK.out (.int .i64 (min LO MK)) W (Below.refl _ _) rfl
            simp only [putAll, Act.put, List.setIfInBounds_toArray, List.set_cons_succ, List.set_cons_zero] at fin
            exact fin
        case fin =>
          intro vs W hc hvl hv
          obtain ⟨x0, x1, x2, x3, x4, rfl⟩ := len5 hvl
          have hd0 := hv 0 (by omega)
          obtain rfl : x0 = .int .i64 LO := rel_get hd0 rfl
          clear hd0
          have hd1 := hv 1 (by omega)
          obtain rfl : x1 = .func (.func G) #[.agg #[.int .i64 sx, .int .i64 sy]] #[] := rel_get hd1 rfl
          clear hd1
          have hd2 := hv 2 (by omega)
          obtain rfl : x2 = .agg #[.int .i64 ak, .int .i64 bk] := rel_get hd2 rfl
          clear hd2
          have hd3 := hv 3 (by omega)
          obtain rfl : x3 = .int .i64 MK := rel_get hd3 rfl
          clear hd3
          have hd4 := hv 4 (by omega)
          obtain rfl : x4 = .int .i64 (min LO MK) := rel_get hd4 rfl
          clear hd4
          simp only [putAll, Act.put, List.setIfInBounds_toArray, List.set_cons_succ, List.set_cons_zero]
          have HC := Lib.hid hc
          clear hc hv hvl
          have RLO2 := Lib.hid (RLO.out.below HC.out RLO.out.lt)
          have RFF2 := Lib.hid (RFF.out.below HC.out RFF.out.lt)
          have BP2 := Lib.hid (Below.andThen BP.out HC.out (Nat.le_refl _))
          have rl := RLO2.out
          have l0 := rl.cell 0
          have f0 := frozen_of_row _ b5 0 _ _ rl
          simp only [List.getElem?_cons_zero] at l0
          clear rl RLO RFF RPK HGK HC
          gi_wp2_with fail
          go_wp2_with fail
          have hw5 : w.heap.size ≤ b5 := by have := HBX.out; omega
          exact ⟨⟨k + 1, by omega, rfl, Lib.hid ⟨BP2.out.setCell (p := ⟨b5, 0, none⟩) hw5 _, RFF2.out.other 0 _ (by have := HBX.out; omega), by rw [HST.out]; exact RLO2.out.set 0 (.int .i64 (min LO MK))⟩⟩, by simp [intOf]; omega⟩
      · have hd : decide ((k : Int) < (n : Int)) = false := decide_eq_false (by omega)
        have hdn : decide (k < n) = false := decide_eq_false hlt
        obtain rfl : k = n := by omega
        go_wp2_with fail
        refine (which_any ps (.slice (some ⟨g, o, none⟩) k c) 97 #[.pointer (some ⟨w.heap.size + 1, 0, none⟩), .pointer (some ⟨b5, 0, none⟩)] (fun p => decide (m p = lowK m ps k)) wr (HSL.out.grow HB.out.1) HL.out (enters_of Try.func97 (by kernel_rfl) rfl) (fun W' a b hbb hm => least1_any sx sy G a b (m (a, b)) (lowK m ps k) (w.heap.size + 1) b5 W' (HB.out.2.1.below hbb HB.out.2.1.lt) (HB.out.2.2.below hbb HB.out.2.2.lt) hen (fun W => HG.out W a b hm))).mono ?_
        rintro e w9 ⟨s, rfl, ho, hb9⟩
        have HO := Lib.hid (owns_mono ho (show w.heap.size ≤ wr.heap.size from HB.out.1.size))
        have HB9 := Lib.hid (Below.andThen HB.out.1 hb9 (Nat.le_refl _))
        clear ho hb9
        go_wp2_with fail
        exact bodyPost_ret (v := .tuple #[s, .int .i64 0]) (by simp [results, Try.results65, go_sem]) rfl ⟨s, rfl, HO.out, HB9.out⟩
end Go.Proofs.Ytlemipnplgbckaa
