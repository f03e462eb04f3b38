import Derived.Test.YtlemipnplgbckaaME
import Derived.Laws.AppendOwn
import Derived.ChangeKeysEq
import Derived.Maps.RangeWalk
import Derived.Maps.OwnIn
import Derived.Maps.AppendAt
import Derived.RangeFuncNested
import Derived.RangeFuncBound
import Derived.RangeFuncCalls
import Derived.RangeFuncLeaves
import Derived.Shelf.Abstract
import Derived.Shelf.RegionOpen
import Derived.WalkKit
import Derived.WalkMore
import Derived.OwnWalkIn
import Derived.TacticsInMore
import Derived.LoopNIn
import Derived.LoopIn
import Derived.WalkSpells
import Derived.WalkLawsBesides
import Derived.BigQuiet
import Derived.Deep.QuietTactic
import Derived.Lib.Hide
import Derived.Deep.RegionHeld3
import Derived.StillTailTactics
import Derived.Deep.LoopGhost
import Derived.Maps.OwnSet
import Derived.Lib.IndexAny
import Derived.Sort.QuietThIn
import Derived.Sort.QuietTacIn
import Derived.Sort.BigQuietIn
import Derived.Laws.OwnMore
import Derived.DeepKeys4
import Derived.Maps.Views
import Derived.Maps.OwnOps
import Derived.Deep.DeepCutAuto
namespace Go.Proofs.Ytlemipnplgbckaa
open Go.RowKit Go.Shelf
attribute [local go_sem] Oper.semAt_some
/-- the least measure of the first points -/
def lowK (m : Pt → Int) (ps : List Pt) (k : Nat) : Int := (ps.take k).foldl (fun a p => min a (m p)) (m (ptAt ps 0))
theorem lowK_step {m : Pt → Int} {ps : List Pt} {k : Nat} (h : k < ps.length) : lowK m ps (k + 1) = min (lowK m ps k) (m ps[k]) := by
  unfold lowK
  rw [List.take_succ_eq_append_getElem h, List.foldl_append]
  rfl
set_option maxRecDepth 100000 in
set_option maxHeartbeats 1000000 in
theorem least_err (ps : List Pt) (v : Value) (x y sx sy : Int) (G : FuncId) (w : World) (hv : SlP w v ps) (hl : ps.length ≤ 1000000) (k : Int) (he : errP ps = k) (hk : k ≠ 0) :
    Calls Try.prog 65 #[v, .agg #[.int .i64 x, .int .i64 y], .func (.func G) #[.agg #[.int .i64 sx, .int .i64 sy]] #[]] w fun e w' => e = .returned (.tuple #[.slice none 0 0, .int .i64 k]) ∧ Below w.heap.size w w' := by
  obtain ⟨V, hV, r1, r2, bV, hs⟩ := two_start w 28 91 [.int .i64 x, .int .i64 y] [.func (.func G) #[.agg #[.int .i64 sx, .int .i64 sy]] #[]]
  have HC := Lib.hid (Check_any ps v V (hv.grow bV) (by omega))
  rw [he] at HC
  have hd : (k != 0) = true := by simp; exact hk
  obtain ⟨a, c, rfl, _⟩ := hv
  generalize ps.length = n at *
  have BV := Lib.hid bV
  clear r1 r2 bV hs he hl hk
  go_enter Try.func65, Try.ntmps65
  go_wp2_with fail
  rw [show (w.alloc (.cells #[.int .i64 x, .int .i64 y] 28)).alloc (.cells #[.func (.func G) #[.agg #[.int .i64 sx, .int .i64 sy]] #[]] 91) = V from hV.symm]
  refine HC.out.mono ?_
  rintro e w1 ⟨rfl, hb⟩
  have BB := Lib.hid (Below.andThen BV.out hb (Nat.le_refl _))
  clear hb HC BV hV
  go_wp2_with fail
  refine bodyPost_ret (v := .tuple #[.slice none 0 0, .int .i64 k]) (by simp [results, Try.results65, go_sem]) rfl ⟨rfl, BB.out⟩
set_option maxRecDepth 100000 in
set_option maxHeartbeats 1000000 in
theorem least_bad (ps : List Pt) (v : Value) (x y sx sy : Int) (G : FuncId) (w : World) (hv : SlP w v ps) (he : chkP ps = true) (hp : okP (x, y) = false) :
    Calls Try.prog 65 #[v, .agg #[.int .i64 x, .int .i64 y], .func (.func G) #[.agg #[.int .i64 sx, .int .i64 sy]] #[]] w fun e w' => e = .returned (.tuple #[.slice none 0 0, .int .i64 1]) ∧ Below w.heap.size w w' := by
  obtain ⟨⟨hl1, hl⟩, hps, hnd⟩ := chkP_iff.1 he
  obtain ⟨V, hV, r1, r2, bV, hs⟩ := two_start w 28 91 [.int .i64 x, .int .i64 y] [.func (.func G) #[.agg #[.int .i64 sx, .int .i64 sy]] #[]]
  have HC := Lib.hid (Check_any ps v V (hv.grow bV) (by omega))
  rw [errP_ok he] at HC
  have HCP := Lib.hid (fun (W : World) => checkPairs_any [(x, y)] _ _ (slp_one W x y) (by simp))
  simp only [List.all_cons, List.all_nil, Bool.and_true, hp, Bool.false_eq_true, if_false] at HCP
  obtain ⟨a, c, rfl, _⟩ := hv
  generalize ps.length = n at *
  have BV := Lib.hid bV
  have R1 := Lib.hid r1
  clear r1 r2 bV hs he hl hl1 hps hnd hp
  go_enter Try.func65, Try.ntmps65
  go_wp2_with fail
  rw [show (w.alloc (.cells #[.int .i64 x, .int .i64 y] 28)).alloc (.cells #[.func (.func G) #[.agg #[.int .i64 sx, .int .i64 sy]] #[]] 91) = V from hV.symm]
  refine HC.out.mono ?_
  rintro e w1 ⟨rfl, hb⟩
  have BB := Lib.hid (Below.andThen BV.out hb (Nat.le_refl _))
  have rr := R1.out.below hb R1.out.lt
  have k0 := rr.cell 0
  have k1 := rr.cell 1
  simp only [List.getElem?_cons_zero, List.getElem?_cons_succ] at k0 k1
  clear rr hb HC BV hV R1
  go_wp2_with fail
  refine (HCP.out w1).mono ?_
  rintro e w2 ⟨rfl, hb⟩
  have BC := Lib.hid (Below.andThen BB.out (Below.andThen (Below.al (Below.refl _ _) (Nat.le_refl _) _) hb (Nat.le_refl _)) (Nat.le_refl _))
  clear hb HCP BB k0 k1
  go_wp2_with fail
  refine bodyPost_ret (v := .tuple #[.slice none 0 0, .int .i64 1]) (by simp [results, Try.results65, go_sem]) rfl ⟨rfl, BC.out⟩
set_option maxRecDepth 100000 in
set_option maxHeartbeats 400000 in
theorem least1_any (sx sy : Int) (G : FuncId) (x y M low : Int) (bf bl : Nat) (w : World) (rf : Row w bf 91 [.func (.func G) #[.agg #[.int .i64 sx, .int .i64 sy]] #[]]) (rl : Row w bl 3 [.int .i64 low])
    (hen : ∀ args W, (callFunc G args).run Try.prog W = .ok (.enter G args) W)
    (hg : ∀ W, Calls Try.prog G #[.agg #[.int .i64 sx, .int .i64 sy], .agg #[.int .i64 x, .int .i64 y]] W fun e w' => e = .returned (.int .i64 M) ∧ Below W.heap.size W w') :
    Calls Try.prog 97 #[.agg #[.int .i64 x, .int .i64 y], .pointer (some ⟨bf, 0, none⟩), .pointer (some ⟨bl, 0, none⟩)] w fun e w' => e = .returned (.bool (decide (M = low))) ∧ Below w.heap.size w w' := by
  obtain ⟨ba, rb⟩ := box_start w 28 [.int .i64 x, .int .i64 y]
  have BA := Lib.hid ba
  have RB := Lib.hid rb
  have RF := Lib.hid (rf.below ba rf.lt)
  have RL := Lib.hid (rl.below ba rl.lt)
  have HG := Lib.hid hg
  obtain ⟨E, hE⟩ : ∃ E, decide (M = low) = E := ⟨_, rfl⟩
  rw [hE]
  have HE := Lib.hid (show (M == low) = E by rw [← hE, Bool.eq_iff_iff]; simp)
  clear ba rb rf rl hg hE
  go_enter Try.func97, Try.ntmps97
  go_wp2_with fail
  generalize w.alloc (.cells [.int .i64 x, .int .i64 y].toArray 28) = V at *
  refine wp_region_box (by kernel_rfl) (by kernel_rfl) [5, 6, 7, 8, 9, 4] [(fun v => v = .func (.func G) #[.agg #[.int .i64 sx, .int .i64 sy]] #[]), (fun v => v = .agg #[.int .i64 x, .int .i64 y]), (fun v => v = .int .i64 M), (fun v => v = .int .i64 low), (fun v => v = .bool E), (fun v => v = .bool E)] [none, none, none, none, none, none] [none, none, none, none, none, none] 6 rfl (by kernel_rfl) ?tr ⟨[undef, undef, undef, undef, undef, .bool false], by simp only [putAll, Act.put, List.setIfInBounds_toArray, List.set_cons_succ, List.set_cons_zero], rfl⟩ ?steps ?fin
  case tr =>
    rintro i v h
    rcases i with _ | _ | _ | _ | _ | _ | i
    all_goals first | trivial | (exfalso; rcases h with h | h <;> simp at h)
  case steps =>
    simp only [boxSteps, Nat.reduceAdd, Nat.zero_add, List.getD_cons_succ, List.getD_cons_zero]
    refine ⟨?_, ?_, ?_, ?_, ?_, ?_, trivial⟩
    · rintro vs W K hc hvl hw hK
      obtain ⟨x0, x1, x2, x3, x4, x5, rfl⟩ := len6 hvl
      have HK := Lib.hid hK
      have HC := Lib.hid hc
      have HW := Lib.hid hw
      clear hK hc hw hvl
      simp only [putAll, Act.put, List.setIfInBounds_toArray, List.set_cons_succ, List.set_cons_zero]
      have rr := RF.out.below HC.out RF.out.lt
      have d0 := rr.cell 0
      simp only [List.getElem?_cons_zero] at d0
      clear rr
      clear HW
      go_wp2_with fail
      have fin := HK.out (.func (.func G) #[.agg #[.int .i64 sx, .int .i64 sy]] #[]) W (Below.refl _ _) rfl
      simp only [putAll, Act.put, List.setIfInBounds_toArray, List.set_cons_succ, List.set_cons_zero] at fin
      exact fin
    · rintro vs W K hc hvl hw hK
      obtain ⟨x0, x1, x2, x3, x4, x5, rfl⟩ := len6 hvl
      have HK := Lib.hid hK
      have HC := Lib.hid hc
      have HW := Lib.hid hw
      clear hK hc hw hvl
      simp only [putAll, Act.put, List.setIfInBounds_toArray, List.set_cons_succ, List.set_cons_zero]
      have rr := RB.out.below HC.out RB.out.lt
      have d0 := rr.cell 0
      have d1 := rr.cell 1
      simp only [List.getElem?_cons_zero, List.getElem?_cons_succ] at d0 d1
      clear rr
      clear HW
      go_wp2_with fail
      have fin := HK.out (.agg #[.int .i64 x, .int .i64 y]) W (Below.refl _ _) rfl
      simp only [putAll, Act.put, List.setIfInBounds_toArray, List.set_cons_succ, List.set_cons_zero] at fin
      exact fin
    · rintro vs W K hc hvl hw hK
      obtain ⟨x0, x1, x2, x3, x4, x5, rfl⟩ := len6 hvl
      have HK := Lib.hid hK
      have HC := Lib.hid hc
      have HW := Lib.hid hw
      clear hK hc hw hvl
      obtain rfl : x0 = .func (.func G) #[.agg #[.int .i64 sx, .int .i64 sy]] #[] := box_get (HW.out ⟨0, .data⟩ (by simp) rfl) rfl
      obtain rfl : x1 = .agg #[.int .i64 x, .int .i64 y] := box_get (HW.out ⟨1, .data⟩ (by simp) rfl) rfl
      simp only [putAll, Act.put, List.setIfInBounds_toArray, List.set_cons_succ, List.set_cons_zero]
      clear HW
      go_wp2_with fail
      refine (HG.out W).mono ?_
      rintro e W' ⟨rfl, hb'⟩
      have HB' := Lib.hid hb'
      clear hb'
      go_wp2_with fail
      have fin := HK.out (.int .i64 M) W' HB'.out rfl
      simp only [putAll, Act.put, List.setIfInBounds_toArray, List.set_cons_succ, List.set_cons_zero] at fin
      exact fin
    · rintro vs W K hc hvl hw hK
      obtain ⟨x0, x1, x2, x3, x4, x5, rfl⟩ := len6 hvl
      have HK := Lib.hid hK
      have HC := Lib.hid hc
      have HW := Lib.hid hw
      clear hK hc hw hvl
      simp only [putAll, Act.put, List.setIfInBounds_toArray, List.set_cons_succ, List.set_cons_zero]
      have rr := RL.out.below HC.out RL.out.lt
      have d0 := rr.cell 0
      simp only [List.getElem?_cons_zero] at d0
      clear rr
      clear HW
      go_wp2_with fail
      have fin := HK.out (.int .i64 low) W (Below.refl _ _) rfl
      simp only [putAll, Act.put, List.setIfInBounds_toArray, List.set_cons_succ, List.set_cons_zero] at fin
      exact fin
    · rintro vs W K hc hvl hw hK
      obtain ⟨x0, x1, x2, x3, x4, x5, rfl⟩ := len6 hvl
      have HK := Lib.hid hK
      have HC := Lib.hid hc
      have HW := Lib.hid hw
      clear hK hc hw hvl
      obtain rfl : x2 = .int .i64 M := box_get (HW.out ⟨2, .data⟩ (by simp) rfl) rfl
      obtain rfl : x3 = .int .i64 low := box_get (HW.out ⟨3, .data⟩ (by simp) rfl) rfl
      simp only [putAll, Act.put, List.setIfInBounds_toArray, List.set_cons_succ, List.set_cons_zero]
      have hE := HE.out
      clear HW
      go_wp2_with fail
      have fin := HK.out (.bool E) W (Below.refl _ _) rfl
      simp only [putAll, Act.put, List.setIfInBounds_toArray, List.set_cons_succ, List.set_cons_zero] at fin
      exact fin
    · rintro vs W K hc hvl hw hK
      obtain ⟨x0, x1, x2, x3, x4, x5, rfl⟩ := len6 hvl
      have HK := Lib.hid hK
      have HC := Lib.hid hc
      have HW := Lib.hid hw
      clear hK hc hw hvl
      obtain rfl : x4 = .bool E := box_get (HW.out ⟨4, .data⟩ (by simp) rfl) rfl
      simp only [putAll, Act.put, List.setIfInBounds_toArray, List.set_cons_succ, List.set_cons_zero]
      clear HW
      go_wp2_with fail
      have fin := HK.out (.bool E) W (Below.refl _ _) rfl
      simp only [putAll, Act.put, List.setIfInBounds_toArray, List.set_cons_succ, List.set_cons_zero] at fin
      exact fin
  case fin =>
    rintro vs W hJ
    obtain ⟨x0, x1, x2, x3, x4, x5, rfl⟩ := len6 hJ.ln
    obtain rfl : x5 = .bool E := box_get (hJ.val 5 rfl) rfl
    have HC := Lib.hid hJ.bl
    clear hJ
    simp only [putAll, Act.put, List.setIfInBounds_toArray, List.set_cons_succ, List.set_cons_zero]
    go_wp2_with fail
    go_ret
    exact ⟨rfl, Below.andThen BA.out HC.out (Nat.le_refl _)⟩
set_option maxRecDepth 100000 in
set_option maxHeartbeats 1000000 in
theorem least_ok (ps : List Pt) (v : Value) (x y sx sy : Int) (G : FuncId) (m : Pt → Int) (w : World) (hv : SlP w v ps) (he : chkP ps = true) (hp : okP (x, y) = true)
    (hen : ∀ args W, (callFunc G args).run Try.prog W = .ok (.enter G args) W)
    (hg : ∀ W a b, (a, b) ∈ ps → Calls Try.prog G #[.agg #[.int .i64 sx, .int .i64 sy], .agg #[.int .i64 a, .int .i64 b]] W fun e w' => e = .returned (.int .i64 (m (a, b))) ∧ Below W.heap.size W w') :
    Calls Try.prog 65 #[v, .agg #[.int .i64 x, .int .i64 y], .func (.func G) #[.agg #[.int .i64 sx, .int .i64 sy]] #[]] w fun e w' => ∃ s, e = .returned (.tuple #[s, .int .i64 0]) ∧
      w'.ownsRow w.heap.size 3 1 s (whL ps (fun p => decide (m p = lowK m ps ps.length))).length ((whL ps (fun p => decide (m p = lowK m ps ps.length))).map (fun n : Nat => encI (n : Int))) ∧ Below w.heap.size w w' := by
  obtain ⟨⟨hl1, hl⟩, hps, hnd⟩ := chkP_iff.1 he
  obtain ⟨V, hV, r1, r2, bV, hs⟩ := two_start w 28 91 [.int .i64 x, .int .i64 y] [.func (.func G) #[.agg #[.int .i64 sx, .int .i64 sy]] #[]]
  have HC := Lib.hid (Check_any ps v V (hv.grow bV) (by omega))
  rw [errP_ok he] at HC
  have HCP := Lib.hid (fun (W : World) => checkPairs_any [(x, y)] _ _ (slp_one W x y) (by simp))
  simp only [List.all_cons, List.all_nil, Bool.and_true, hp, if_true] at HCP
  have HSL := Lib.hid hv
  obtain ⟨a, c, rfl, hc, hpt⟩ := hv
  obtain ⟨g, o, rfl, hpa⟩ : ∃ g o, a = some ⟨g, o, none⟩ ∧ PtsAt w g o ps := hpt.resolve_left (fun e => by rw [e] at hl1; simp at hl1)
  have HPA := Lib.hid hpa
  have HG := Lib.hid hg
  have HL := Lib.hid hl
  obtain ⟨n, hn⟩ : ∃ n, ps.length = n := ⟨_, rfl⟩
  have HN := Lib.hid hn
  rw [hn] at hl hl1 hc HC HSL ⊢
  have BV := Lib.hid bV
  have R1 := Lib.hid r1
  have R2 := Lib.hid r2
  clear r1 r2 bV hs he hps hnd hp hpt hpa hg hn
  go_enter Try.func65, Try.ntmps65
  go_wp2_with fail
  rw [show (w.alloc (.cells #[.int .i64 x, .int .i64 y] 28)).alloc (.cells #[.func (.func G) #[.agg #[.int .i64 sx, .int .i64 sy]] #[]] 91) = V from hV.symm]
  refine HC.out.mono ?_
  rintro e w1 ⟨rfl, hb⟩
  have BB := Lib.hid (Below.andThen BV.out hb (Nat.le_refl _))
  have R12 := Lib.hid (R1.out.below hb R1.out.lt)
  have R22 := Lib.hid (R2.out.below hb R2.out.lt)
  have rr := R12.out
  have k0 := rr.cell 0
  have k1 := rr.cell 1
  simp only [List.getElem?_cons_zero, List.getElem?_cons_succ] at k0 k1
  clear rr hb HC BV hV R1 R2
  go_wp2_with fail
  refine (HCP.out w1).mono ?_
  rintro e w2 ⟨rfl, hb⟩
  have hb' := Below.andThen (Below.al (Below.refl _ _) (Nat.le_refl _) _) hb (Nat.le_refl _)
  have BC := Lib.hid (Below.andThen BB.out hb' (Nat.le_refl _))
  have R13 := Lib.hid (R12.out.below hb' R12.out.lt)
  have R23 := Lib.hid (R22.out.below hb' R22.out.lt)
  clear hb hb' HCP BB k0 k1 R12 R22
  go_wp2_with fail
  have m0 : 0 < ps.length := by rw [HN.out]; omega
  have hx0 := HPA.out.x 0 m0
  have hy0 := HPA.out.y 0 m0
  have hz0 := ptAt_lt m0
  have hm0 := HG.out
  have hgm := fun W => HG.out W ps[0].1 ps[0].2 (List.getElem_mem m0)
  generalize ps[0] = p0 at *
  obtain ⟨a0, b0⟩ := p0
  dsimp only at hx0 hy0 hgm
  have HP0 := Lib.hid (And.intro (fun W (hb : Below w.heap.size w W) => below_at hb HPA.out.lt hx0) (fun W (hb : Below w.heap.size w W) => below_at hb HPA.out.lt hy0))
  obtain ⟨M0, hM0⟩ : ∃ M0, m (a0, b0) = M0 := ⟨_, rfl⟩
  rw [hM0] at hgm
  have HM0 := Lib.hid (show lowK m ps 0 = M0 by unfold lowK; rw [hz0, ← hM0]; rfl)
  have HGM := Lib.hid hgm
  clear hx0 hy0 hz0 hm0 hgm hM0 m0
  simp only [Nat.zero_mul, Nat.add_zero] at HP0
  refine wp_region_box (by kernel_rfl) (by kernel_rfl) [24, 25, 26, 27, 28, 10, 1000] [(fun v => v = .func (.func G) #[.agg #[.int .i64 sx, .int .i64 sy]] #[]), (fun v => v = .slice (some ⟨g, o, none⟩) n c), (fun v => v = .pointer (some ⟨g, o, none⟩)), (fun v => v = .agg #[.int .i64 a0, .int .i64 b0]), (fun v => v = .int .i64 M0), (fun _ => True), (fun _ => True)] [none, none, none, none, none, some (3, [.int .i64 0], [.int .i64 M0]), none] [none, none, none, none, none, none, some 5] 7 rfl (by kernel_rfl) ?tr ⟨[undef, undef, undef, undef, undef, undef, undef], by simp only [putAll, Act.put, List.setIfInBounds_toArray, List.set_cons_succ, List.set_cons_zero, List.set_nil], rfl⟩ ?steps ?fin
  case tr =>
    rintro i v h
    rcases i with _ | _ | _ | _ | _ | _ | _ | i
    all_goals first | trivial | (exfalso; rcases h with h | h <;> simp at h)
  case steps =>
    simp only [boxSteps, Nat.reduceAdd, Nat.zero_add, List.getD_cons_succ, List.getD_cons_zero]
    refine ⟨?_, ?_, ?_, ?_, ?_, ?_, ?_, trivial⟩
    · rintro vs W K hc hvl hw hK
      obtain ⟨x0, x1, x2, x3, x4, x5, x6, rfl⟩ := len7 hvl
      have HK := Lib.hid hK
      have HC := Lib.hid hc
      have HW := Lib.hid hw
      clear hK hc hw hvl
      simp only [putAll, Act.put, List.setIfInBounds_toArray, List.set_cons_succ, List.set_cons_zero, List.set_nil]
      have rr := R23.out.below HC.out R23.out.lt
      have d0 := rr.cell 0
      simp only [List.getElem?_cons_zero] at d0
      clear rr
      clear HW
      go_wp2_with fail
      have fin := HK.out (.func (.func G) #[.agg #[.int .i64 sx, .int .i64 sy]] #[]) W (Below.refl _ _) rfl
      simp only [putAll, Act.put, List.setIfInBounds_toArray, List.set_cons_succ, List.set_cons_zero, List.set_nil] at fin
      exact fin
    · rintro vs W K hc hvl hw hK
      obtain ⟨x0, x1, x2, x3, x4, x5, x6, rfl⟩ := len7 hvl
      have HK := Lib.hid hK
      have HC := Lib.hid hc
      have HW := Lib.hid hw
      clear hK hc hw hvl
      simp only [putAll, Act.put, List.setIfInBounds_toArray, List.set_cons_succ, List.set_cons_zero, List.set_nil]
      clear HW
      go_wp2_with fail
      have fin := HK.out (.slice (some ⟨g, o, none⟩) n c) W (Below.refl _ _) rfl
      simp only [putAll, Act.put, List.setIfInBounds_toArray, List.set_cons_succ, List.set_cons_zero, List.set_nil] at fin
      exact fin
    · rintro vs W K hc hvl hw hK
      obtain ⟨x0, x1, x2, x3, x4, x5, x6, rfl⟩ := len7 hvl
      have HK := Lib.hid hK
      have HC := Lib.hid hc
      have HW := Lib.hid hw
      clear hK hc hw hvl
      obtain rfl : x1 = .slice (some ⟨g, o, none⟩) n c := box_get (HW.out ⟨1, .data⟩ (by simp) rfl) rfl
      simp only [putAll, Act.put, List.setIfInBounds_toArray, List.set_cons_succ, List.set_cons_zero, List.set_nil]
      have hi1 : (0 : Int) < (n : Int) := by omega
      clear HW
      go_wp2_with fail
      have fin := HK.out (.pointer (some ⟨g, o, none⟩)) W (Below.refl _ _) rfl
      simp only [putAll, Act.put, List.setIfInBounds_toArray, List.set_cons_succ, List.set_cons_zero, List.set_nil] at fin
      exact fin
    · rintro vs W K hc hvl hw hK
      obtain ⟨x0, x1, x2, x3, x4, x5, x6, rfl⟩ := len7 hvl
      have HK := Lib.hid hK
      have HC := Lib.hid hc
      have HW := Lib.hid hw
      clear hK hc hw hvl
      obtain rfl : x2 = .pointer (some ⟨g, o, none⟩) := box_get (HW.out ⟨2, .data⟩ (by simp) rfl) rfl
      simp only [putAll, Act.put, List.setIfInBounds_toArray, List.set_cons_succ, List.set_cons_zero, List.set_nil]
      have d0 := HP0.out.1 W (Below.andThen BC.out HC.out (Nat.le_refl _))
      have d1 := HP0.out.2 W (Below.andThen BC.out HC.out (Nat.le_refl _))
      clear HW
      go_wp2_with fail
      have fin := HK.out (.agg #[.int .i64 a0, .int .i64 b0]) W (Below.refl _ _) rfl
      simp only [putAll, Act.put, List.setIfInBounds_toArray, List.set_cons_succ, List.set_cons_zero, List.set_nil] at fin
      exact fin
    · rintro vs W K hc hvl hw hK
      obtain ⟨x0, x1, x2, x3, x4, x5, x6, rfl⟩ := len7 hvl
      have HK := Lib.hid hK
      have HC := Lib.hid hc
      have HW := Lib.hid hw
      clear hK hc hw hvl
      obtain rfl : x0 = .func (.func G) #[.agg #[.int .i64 sx, .int .i64 sy]] #[] := box_get (HW.out ⟨0, .data⟩ (by simp) rfl) rfl
      obtain rfl : x3 = .agg #[.int .i64 a0, .int .i64 b0] := box_get (HW.out ⟨3, .data⟩ (by simp) rfl) rfl
      simp only [putAll, Act.put, List.setIfInBounds_toArray, List.set_cons_succ, List.set_cons_zero, List.set_nil]
      clear HW
      go_wp2_with fail
      refine (HGM.out W).mono ?_
      rintro e W' ⟨rfl, hb'⟩
      have HB' := Lib.hid hb'
      clear hb'
      go_wp2_with fail
      have fin := HK.out (.int .i64 M0) W' HB'.out rfl
      simp only [putAll, Act.put, List.setIfInBounds_toArray, List.set_cons_succ, List.set_cons_zero, List.set_nil] at fin
      exact fin
    · rintro vs W K hc hvl hw hK
      obtain ⟨x0, x1, x2, x3, x4, x5, x6, rfl⟩ := len7 hvl
      have HK := Lib.hid hK
      have HC := Lib.hid hc
      have HW := Lib.hid hw
      clear hK hc hw hvl
      simp only [putAll, Act.put, List.setIfInBounds_toArray, List.set_cons_succ, List.set_cons_zero, List.set_nil]
      clear HW
      go_wp2_with fail
      have fin := HK.out
      simp only [putAll, Act.put, List.setIfInBounds_toArray, List.set_cons_succ, List.set_cons_zero, List.set_nil] at fin
      exact fin
    · rintro vs W K hc hvl hw b E z f hia hva hb0 hr hK
      cases hia
      obtain ⟨x0, x1, x2, x3, x4, x5, x6, rfl⟩ := len7 hvl
      have HK := Lib.hid hK
      have HC := Lib.hid hc
      have HW := Lib.hid hw
      clear hK hc hw hvl
      obtain rfl : x4 = .int .i64 M0 := box_get (HW.out ⟨4, .data⟩ (by simp) rfl) rfl
      obtain rfl : x5 = .pointer (some ⟨b, 0, none⟩) := Option.some.inj hva
      simp only [putAll, Act.put, List.setIfInBounds_toArray, List.set_cons_succ, List.set_cons_zero, List.set_nil]
      have kf0 := frozen_of_row W b 0 _ _ hr
      have kc0 : W.cell? ⟨b, 0, none⟩ = some (.int .i64 0) := hr.cell 0
      have HRW := Lib.hid hr
      clear HW hr hva
      go_wp2_with fail
      have fin := HK.out _ (show Row _ b 3 [.int .i64 M0] from by simpa using (show Row _ b 3 _ from (HRW.out.set 0 (.int .i64 M0)))) (grown_put (grown_self W _))
      simp only [putAll, Act.put, List.setIfInBounds_toArray, List.set_cons_succ, List.set_cons_zero, List.set_nil] at fin
      exact fin
  case fin =>
    rintro vs W hJ
    obtain ⟨x0, x1, x2, x3, x4, x5, x6, rfl⟩ := len7 hJ.ln
    obtain rfl : x0 = .func (.func G) #[.agg #[.int .i64 sx, .int .i64 sy]] #[] := box_get (hJ.val 0 rfl) rfl
    obtain rfl : x1 = .slice (some ⟨g, o, none⟩) n c := box_get (hJ.val 1 rfl) rfl
    obtain rfl : x2 = .pointer (some ⟨g, o, none⟩) := box_get (hJ.val 2 rfl) rfl
    obtain rfl : x3 = .agg #[.int .i64 a0, .int .i64 b0] := box_get (hJ.val 3 rfl) rfl
    obtain rfl : x4 = .int .i64 M0 := box_get (hJ.val 4 rfl) rfl
    obtain ⟨b5, e5, hb5, hr5⟩ := hJ.box 5 _ _ _ rfl rfl
    obtain rfl : x5 = .pointer (some ⟨b5, 0, none⟩) := Option.some.inj e5
    replace hr5 : Row W b5 3 [.int .i64 M0] := hr5
    have HR5 := Lib.hid hr5
    clear e5 hr5
    have HC := Lib.hid hJ.bl
    clear hJ
    simp only [putAll, Act.put, List.setIfInBounds_toArray, List.set_cons_succ, List.set_cons_zero, List.set_nil]
    have R14 := Lib.hid (R13.out.below HC.out R13.out.lt)
    have R24 := Lib.hid (R23.out.below HC.out R23.out.lt)
    have HB5 := Lib.hid hb5
    have BC4 := Lib.hid (Below.andThen BC.out HC.out (Nat.le_refl _))
    have R23S := Lib.hid R23.out.lt
    clear R13 R23 HGM
    clear HC hb5
    go_wp2_with fail
    have hb56 : w.heap.size + 1 < b5 := by have h1 := HB5.out; have h2 := R14.out.lt; have h3 := R23S.out; omega
    have HBX := Lib.hid hb56
    clear hb56
    rw [← HM0.out] at HR5
    go_loopw [31] (fun iv wr => ∃ k : Nat, k ≤ n ∧ iv = .int .i64 (k : Int) ∧ Hid (Below w.heap.size w wr ∧ Row wr (w.heap.size + 1) 91 [.func (.func G) #[.agg #[.int .i64 sx, .int .i64 sy]] #[]] ∧ Row wr b5 3 [.int .i64 (lowK m ps k)])) (fun iv _ => (n - intOf iv).toNat)
    case atStart => exact ⟨0, by omega, rfl, Lib.hid ⟨BC4.out, R24.out, HR5.out⟩⟩
    case round =>
      obtain ⟨k, hk, rfl, HB⟩ := hrel
      have kw : IntKind.i64.wrap ((k : Int) + 1) = ((k + 1 : Nat) : Int) := by rw [i64_of _ (by omega) (by omega)]; omega
      by_cases hlt : k < n
      · have hd : decide ((k : Int) < (n : Int)) = true := decide_eq_true (by omega)
        have hdn : decide (k < n) = true := decide_eq_true hlt
        have hlk : k < ps.length := by rw [HN.out]; exact hlt
        have hp2 := HPA.out.below HB.out.1 HPA.out.lt
        have k0 := hp2.x k hlk
        have k1 := hp2.y k hlk
        have HST := Lib.hid (lowK_step (m := m) hlk)
        have HGK0 := Lib.hid (fun W => HG.out W ps[k].1 ps[k].2 (List.getElem_mem hlk))
        clear hp2
        generalize ps[k] = pk at *
        clear hlk
        obtain ⟨ak, bk⟩ := pk
        dsimp only at k0 k1 HGK0
        obtain ⟨MK, hMK⟩ : ∃ MK, m (ak, bk) = MK := ⟨_, rfl⟩
        rw [hMK] at HST HGK0
        have HGK := HGK0
        clear HGK0 hMK
        have r5 := HB.out.2.2
        generalize lowK m ps k = LO at *
        obtain ⟨bp, rp⟩ := box_start wr 28 [.int .i64 ak, .int .i64 bk]
        have RLO := Lib.hid (r5.below bp r5.lt)
        have RFF := Lib.hid (HB.out.2.1.below bp HB.out.2.1.lt)
        have RPK := Lib.hid rp
        have BP := Lib.hid (Below.andThen HB.out.1 bp (Nat.le_refl _))
        clear r5 bp rp
        go_wp2_with fail
        generalize wr.alloc (.cells [.int .i64 ak, .int .i64 bk].toArray 28) = V at *
        refine (wpIn_wide (n := 4)).1 ?_
        refine wpIn_region_relcut 5 (by kernel_rfl) (by kernel_rfl) [35, 36, 37, 38, 39] [LitR (.int .i64 LO), LitR (.func (.func G) #[.agg #[.int .i64 sx, .int .i64 sy]] #[]), LitR (.agg #[.int .i64 ak, .int .i64 bk]), LitR (.int .i64 MK), LitR (.int .i64 (min LO MK))] (List.forall_mem_cons.2 ⟨LitR.stab _, (List.forall_mem_cons.2 ⟨LitR.stab _, (List.forall_mem_cons.2 ⟨LitR.stab _, (List.forall_mem_cons.2 ⟨LitR.stab _, (List.forall_mem_cons.2 ⟨LitR.stab _, (fun _ h => nomatch h)⟩)⟩)⟩)⟩)⟩) ⟨[u35, u36, u37, u38, u39], by simp only [putAll, Act.put, List.setIfInBounds_toArray, List.set_cons_succ, List.set_cons_zero], rfl⟩ ?steps ?fin
        case steps =>
          intro Q'
          simp only [relStepsIn, List.take_succ_cons, List.take_zero]
          refine ⟨?_, ?_, ?_, ?_, ?_, trivial⟩
          · rintro vs W K hc hvl hw hK
            obtain ⟨x0, x1, x2, x3, x4, rfl⟩ := len5 hvl
            have HK := Lib.hid hK
            have HC := Lib.hid hc
            have HW := Lib.hid hw
            clear hK hc hw hvl
            simp only [putAll, Act.put, List.setIfInBounds_toArray, List.set_cons_succ, List.set_cons_zero]
            have rr := RLO.out.below HC.out RLO.out.lt
            have d0 := rr.cell 0
            simp only [List.getElem?_cons_zero] at d0
            clear rr
            clear HW
            gi_wp2_with fail
            have fin := HK.out (.int .i64 LO) W (Below.refl _ _) rfl
            simp only [putAll, Act.put, List.setIfInBounds_toArray, List.set_cons_succ, List.set_cons_zero] at fin
            exact fin
          · rintro vs W K hc hvl hw hK
            obtain ⟨x0, x1, x2, x3, x4, rfl⟩ := len5 hvl
            have HK := Lib.hid hK
            have HC := Lib.hid hc
            have HW := Lib.hid hw
            clear hK hc hw hvl
            simp only [putAll, Act.put, List.setIfInBounds_toArray, List.set_cons_succ, List.set_cons_zero]
            have rr := RFF.out.below HC.out RFF.out.lt
            have d0 := rr.cell 0
            simp only [List.getElem?_cons_zero] at d0
            clear rr
            clear HW
            gi_wp2_with fail
            have fin := HK.out (.func (.func G) #[.agg #[.int .i64 sx, .int .i64 sy]] #[]) W (Below.refl _ _) rfl
            simp only [putAll, Act.put, List.setIfInBounds_toArray, List.set_cons_succ, List.set_cons_zero] at fin
            exact fin
          · rintro vs W K hc hvl hw hK
            obtain ⟨x0, x1, x2, x3, x4, rfl⟩ := len5 hvl
            have HK := Lib.hid hK
            have HC := Lib.hid hc
            have HW := Lib.hid hw
            clear hK hc hw hvl
            simp only [putAll, Act.put, List.setIfInBounds_toArray, List.set_cons_succ, List.set_cons_zero]
            have rr := RPK.out.below HC.out RPK.out.lt
            have d0 := rr.cell 0
            have d1 := rr.cell 1
            simp only [List.getElem?_cons_zero, List.getElem?_cons_succ] at d0 d1
            clear rr
            clear HW
            gi_wp2_with fail
            have fin := HK.out (.agg #[.int .i64 ak, .int .i64 bk]) W (Below.refl _ _) rfl
            simp only [putAll, Act.put, List.setIfInBounds_toArray, List.set_cons_succ, List.set_cons_zero] at fin
            exact fin
          · rintro vs W K hc hvl hw hK
            obtain ⟨x0, x1, x2, x3, x4, rfl⟩ := len5 hvl
            have HK := Lib.hid hK
            have HC := Lib.hid hc
            have HW := Lib.hid hw
            clear hK hc hw hvl
            have hd1 := HW.out ⟨1, .data⟩ (by simp) rfl
            obtain rfl : x1 = .func (.func G) #[.agg #[.int .i64 sx, .int .i64 sy]] #[] := rel_get hd1 rfl
            have hd2 := HW.out ⟨2, .data⟩ (by simp) rfl
            obtain rfl : x2 = .agg #[.int .i64 ak, .int .i64 bk] := rel_get hd2 rfl
            simp only [putAll, Act.put, List.setIfInBounds_toArray, List.set_cons_succ, List.set_cons_zero]
            clear HW hd1 hd2
            gi_wp2_with fail
            refine ⟨trivial, (callsIn_wide.2 (HGK.out W)).mono ?_⟩
            rintro e W' ⟨rfl, hb'⟩
            have HB' := Lib.hid hb'
            clear hb'
            gi_wp2_with fail
            have fin := HK.out (.int .i64 MK) W' HB'.out rfl
            simp only [putAll, Act.put, List.setIfInBounds_toArray, List.set_cons_succ, List.set_cons_zero] at fin
            exact fin
          · rintro vs W K hc hvl hw hK
            obtain ⟨x0, x1, x2, x3, x4, rfl⟩ := len5 hvl
            have HK := Lib.hid hK
            have HC := Lib.hid hc
            have HW := Lib.hid hw
            clear hK hc hw hvl
            have hd0 := HW.out ⟨0, .data⟩ (by simp) rfl
            obtain rfl : x0 = .int .i64 LO := rel_get hd0 rfl
            have hd3 := HW.out ⟨3, .data⟩ (by simp) rfl
            obtain rfl : x3 = .int .i64 MK := rel_get hd3 rfl
            simp only [putAll, Act.put, List.setIfInBounds_toArray, List.set_cons_succ, List.set_cons_zero]
            clear HW hd0 hd3
            gi_wp2_with fail
            have fin := HK.out (.int .i64 (min LO MK)) W (Below.refl _ _) rfl
            simp only [putAll, Act.put, List.setIfInBounds_toArray, List.set_cons_succ, List.set_cons_zero] at fin
            exact fin
        case fin =>
          intro vs W hc hvl hv
          obtain ⟨x0, x1, x2, x3, x4, rfl⟩ := len5 hvl
          have hd0 := hv 0 (by omega)
          obtain rfl : x0 = .int .i64 LO := rel_get hd0 rfl
          clear hd0
          have hd1 := hv 1 (by omega)
          obtain rfl : x1 = .func (.func G) #[.agg #[.int .i64 sx, .int .i64 sy]] #[] := rel_get hd1 rfl
          clear hd1
          have hd2 := hv 2 (by omega)
          obtain rfl : x2 = .agg #[.int .i64 ak, .int .i64 bk] := rel_get hd2 rfl
          clear hd2
          have hd3 := hv 3 (by omega)
          obtain rfl : x3 = .int .i64 MK := rel_get hd3 rfl
          clear hd3
          have hd4 := hv 4 (by omega)
          obtain rfl : x4 = .int .i64 (min LO MK) := rel_get hd4 rfl
          clear hd4
          simp only [putAll, Act.put, List.setIfInBounds_toArray, List.set_cons_succ, List.set_cons_zero]
          have HC := Lib.hid hc
          clear hc hv hvl
          have RLO2 := Lib.hid (RLO.out.below HC.out RLO.out.lt)
          have RFF2 := Lib.hid (RFF.out.below HC.out RFF.out.lt)
          have BP2 := Lib.hid (Below.andThen BP.out HC.out (Nat.le_refl _))
          have rl := RLO2.out
          have l0 := rl.cell 0
          have f0 := frozen_of_row _ b5 0 _ _ rl
          simp only [List.getElem?_cons_zero] at l0
          clear rl RLO RFF RPK HGK HC
          gi_wp2_with fail
          go_wp2_with fail
          have hw5 : w.heap.size ≤ b5 := by have := HBX.out; omega
          exact ⟨⟨k + 1, by omega, rfl, Lib.hid ⟨BP2.out.setCell (p := ⟨b5, 0, none⟩) hw5 _, RFF2.out.other 0 _ (by have := HBX.out; omega), by rw [HST.out]; exact RLO2.out.set 0 (.int .i64 (min LO MK))⟩⟩, by simp [intOf]; omega⟩
      · have hd : decide ((k : Int) < (n : Int)) = false := decide_eq_false (by omega)
        have hdn : decide (k < n) = false := decide_eq_false hlt
        obtain rfl : k = n := by omega
        go_wp2_with fail
        refine (which_any ps (.slice (some ⟨g, o, none⟩) k c) 97 #[.pointer (some ⟨w.heap.size + 1, 0, none⟩), .pointer (some ⟨b5, 0, none⟩)] (fun p => decide (m p = lowK m ps k)) wr (HSL.out.grow HB.out.1) HL.out (enters_of Try.func97 (by kernel_rfl) rfl) (fun W' a b hbb hm => least1_any sx sy G a b (m (a, b)) (lowK m ps k) (w.heap.size + 1) b5 W' (HB.out.2.1.below hbb HB.out.2.1.lt) (HB.out.2.2.below hbb HB.out.2.2.lt) hen (fun W => HG.out W a b hm))).mono ?_
        rintro e w9 ⟨s, rfl, ho, hb9⟩
        have HO := Lib.hid (owns_mono ho (show w.heap.size ≤ wr.heap.size from HB.out.1.size))
        have HB9 := Lib.hid (Below.andThen HB.out.1 hb9 (Nat.le_refl _))
        clear ho hb9
        go_wp2_with fail
        exact bodyPost_ret (v := .tuple #[s, .int .i64 0]) (by simp [results, Try.results65, go_sem]) rfl ⟨s, rfl, HO.out, HB9.out⟩
end Go.Proofs.Ytlemipnplgbckaa
namespace Go.Proofs.Ytlemipnplgbckaa
open Go.RowKit Go.Shelf
attribute [local go_sem] Oper.semAt_some
set_option maxRecDepth 100000 in
set_option maxHeartbeats 600000 in
theorem Nearest_err (ps : List Pt) (v : Value) (x y : Int) (w : World) (hv : SlP w v ps) (hl : ps.length ≤ 1000000) (k : Int) (he : errP ps = k) (hk : k ≠ 0) :
    Calls Try.prog 24 #[v, .agg #[.int .i64 x, .int .i64 y]] w fun e w' => e = .returned (.tuple #[.slice none 0 0, .int .i64 k]) ∧ Below w.heap.size w w' := by
  obtain ⟨ba, rb⟩ := box_start w 28 [.int .i64 x, .int .i64 y]
  have HC := Lib.hid (least_err ps v x y x y 66 _ (hv.grow ba) hl k he hk)
  have k0 := rb.cell 0
  have k1 := rb.cell 1
  simp only [List.getElem?_cons_zero, List.getElem?_cons_succ] at k0 k1
  have BA := Lib.hid ba
  obtain ⟨a, c, rfl, _⟩ := hv
  generalize hln : ps.length = n at *
  have HLN := Lib.hid hln
  clear ba rb hln
  go_enter Try.func24, Try.ntmps24
  go_wp2_with fail
  refine HC.out.mono ?_
  rintro e w1 ⟨rfl, hb⟩
  have BB := Lib.hid (Below.andThen BA.out hb (Nat.le_refl _))
  clear hb BA
  clear k0 k1 HC
  go_wp2_with fail
  refine bodyPost_ret (v := .tuple #[.slice none 0 0, .int .i64 k]) (by simp [results, Try.results24, go_sem]) rfl ⟨rfl, BB.out⟩
set_option maxRecDepth 100000 in
set_option maxHeartbeats 600000 in
theorem Nearest_bad (ps : List Pt) (v : Value) (x y : Int) (w : World) (hv : SlP w v ps) (he : chkP ps = true) (hp : okP (x, y) = false) :
    Calls Try.prog 24 #[v, .agg #[.int .i64 x, .int .i64 y]] w fun e w' => e = .returned (.tuple #[.slice none 0 0, .int .i64 1]) ∧ Below w.heap.size w w' := by
  obtain ⟨ba, rb⟩ := box_start w 28 [.int .i64 x, .int .i64 y]
  have HC := Lib.hid (least_bad ps v x y x y 66 _ (hv.grow ba) he hp)
  have k0 := rb.cell 0
  have k1 := rb.cell 1
  simp only [List.getElem?_cons_zero, List.getElem?_cons_succ] at k0 k1
  have BA := Lib.hid ba
  obtain ⟨a, c, rfl, _⟩ := hv
  generalize hln : ps.length = n at *
  have HLN := Lib.hid hln
  clear he hp
  clear ba rb hln
  go_enter Try.func24, Try.ntmps24
  go_wp2_with fail
  refine HC.out.mono ?_
  rintro e w1 ⟨rfl, hb⟩
  have BB := Lib.hid (Below.andThen BA.out hb (Nat.le_refl _))
  clear hb BA
  clear k0 k1 HC
  go_wp2_with fail
  refine bodyPost_ret (v := .tuple #[.slice none 0 0, .int .i64 1]) (by simp [results, Try.results24, go_sem]) rfl ⟨rfl, BB.out⟩
/-- the numbers that Nearest lists -/
def NearestL (ps : List Pt) (p : Pt) : List Nat := whL ps (fun q => decide (fd q p = lowK (fun q => fd q p) ps ps.length))
set_option maxRecDepth 100000 in
set_option maxHeartbeats 600000 in
theorem Nearest_ok (ps : List Pt) (v : Value) (x y : Int) (w : World) (hv : SlP w v ps) (he : chkP ps = true) (hp : okP (x, y) = true) :
    Calls Try.prog 24 #[v, .agg #[.int .i64 x, .int .i64 y]] w fun e w' => ∃ s, e = .returned (.tuple #[s, .int .i64 0]) ∧ w'.ownsRow w.heap.size 3 1 s (NearestL ps (x, y)).length ((NearestL ps (x, y)).map (fun n : Nat => encI (n : Int))) ∧ Below w.heap.size w w' := by
  obtain ⟨ba, rb⟩ := box_start w 28 [.int .i64 x, .int .i64 y]
  have hb2 := okP_iff.1 hp
  have hps := (chkP_iff.1 he).2.1
  have HC := Lib.hid (least_ok ps v x y x y 66 (fun q => fd q (x, y)) _ (hv.grow ba) he hp (enters_of Try.func66 (by kernel_rfl) rfl) (fun W a b hm => dist_any x y a b W hb2.1 hb2.2 (hps _ hm).1 (hps _ hm).2))
  have HSZ := Lib.hid ba.size
  have HQ := Lib.hid (show NearestL ps (x, y) = whL ps (fun q => decide (fd q (x, y) = lowK (fun q => fd q (x, y)) ps ps.length)) from rfl)
  rw [← HQ.out] at HC
  generalize NearestL ps (x, y) = Q at *
  have k0 := rb.cell 0
  have k1 := rb.cell 1
  simp only [List.getElem?_cons_zero, List.getElem?_cons_succ] at k0 k1
  have BA := Lib.hid ba
  obtain ⟨a, c, rfl, _⟩ := hv
  generalize hln : ps.length = n at *
  have HLN := Lib.hid hln
  clear he hp hb2 hps HQ
  clear ba rb hln
  go_enter Try.func24, Try.ntmps24
  go_wp2_with fail
  refine HC.out.mono ?_
  rintro e w1 ⟨s, rfl, ho, hb⟩
  have BB := Lib.hid (Below.andThen BA.out hb (Nat.le_refl _))
  have HO := Lib.hid (owns_mono ho HSZ.out)
  clear hb BA ho
  clear k0 k1 HC
  go_wp2_with fail
  refine bodyPost_ret (v := .tuple #[s, .int .i64 0]) (by simp [results, Try.results24, go_sem]) rfl ⟨s, rfl, HO.out, BB.out⟩
set_option maxRecDepth 100000 in
set_option maxHeartbeats 600000 in
theorem Farthest_err (ps : List Pt) (v : Value) (x y : Int) (w : World) (hv : SlP w v ps) (hl : ps.length ≤ 1000000) (k : Int) (he : errP ps = k) (hk : k ≠ 0) :
    Calls Try.prog 25 #[v, .agg #[.int .i64 x, .int .i64 y]] w fun e w' => e = .returned (.tuple #[.slice none 0 0, .int .i64 k]) ∧ Below w.heap.size w w' := by
  obtain ⟨ba, rb⟩ := box_start w 28 [.int .i64 x, .int .i64 y]
  have HC := Lib.hid (least_err ps v x y x y 67 _ (hv.grow ba) hl k he hk)
  have k0 := rb.cell 0
  have k1 := rb.cell 1
  simp only [List.getElem?_cons_zero, List.getElem?_cons_succ] at k0 k1
  have BA := Lib.hid ba
  obtain ⟨a, c, rfl, _⟩ := hv
  generalize hln : ps.length = n at *
  have HLN := Lib.hid hln
  clear ba rb hln
  go_enter Try.func25, Try.ntmps25
  go_wp2_with fail
  refine HC.out.mono ?_
  rintro e w1 ⟨rfl, hb⟩
  have BB := Lib.hid (Below.andThen BA.out hb (Nat.le_refl _))
  clear hb BA
  clear k0 k1 HC
  go_wp2_with fail
  refine bodyPost_ret (v := .tuple #[.slice none 0 0, .int .i64 k]) (by simp [results, Try.results25, go_sem]) rfl ⟨rfl, BB.out⟩
set_option maxRecDepth 100000 in
set_option maxHeartbeats 600000 in
theorem Farthest_bad (ps : List Pt) (v : Value) (x y : Int) (w : World) (hv : SlP w v ps) (he : chkP ps = true) (hp : okP (x, y) = false) :
    Calls Try.prog 25 #[v, .agg #[.int .i64 x, .int .i64 y]] w fun e w' => e = .returned (.tuple #[.slice none 0 0, .int .i64 1]) ∧ Below w.heap.size w w' := by
  obtain ⟨ba, rb⟩ := box_start w 28 [.int .i64 x, .int .i64 y]
  have HC := Lib.hid (least_bad ps v x y x y 67 _ (hv.grow ba) he hp)
  have k0 := rb.cell 0
  have k1 := rb.cell 1
  simp only [List.getElem?_cons_zero, List.getElem?_cons_succ] at k0 k1
  have BA := Lib.hid ba
  obtain ⟨a, c, rfl, _⟩ := hv
  generalize hln : ps.length = n at *
  have HLN := Lib.hid hln
  clear he hp
  clear ba rb hln
  go_enter Try.func25, Try.ntmps25
  go_wp2_with fail
  refine HC.out.mono ?_
  rintro e w1 ⟨rfl, hb⟩
  have BB := Lib.hid (Below.andThen BA.out hb (Nat.le_refl _))
  clear hb BA
  clear k0 k1 HC
  go_wp2_with fail
  refine bodyPost_ret (v := .tuple #[.slice none 0 0, .int .i64 1]) (by simp [results, Try.results25, go_sem]) rfl ⟨rfl, BB.out⟩
/-- the numbers that Farthest lists -/
def FarthestL (ps : List Pt) (p : Pt) : List Nat := whL ps (fun q => decide (-(fd q p) = lowK (fun q => -(fd q p)) ps ps.length))
set_option maxRecDepth 100000 in
set_option maxHeartbeats 600000 in
theorem Farthest_ok (ps : List Pt) (v : Value) (x y : Int) (w : World) (hv : SlP w v ps) (he : chkP ps = true) (hp : okP (x, y) = true) :
    Calls Try.prog 25 #[v, .agg #[.int .i64 x, .int .i64 y]] w fun e w' => ∃ s, e = .returned (.tuple #[s, .int .i64 0]) ∧ w'.ownsRow w.heap.size 3 1 s (FarthestL ps (x, y)).length ((FarthestL ps (x, y)).map (fun n : Nat => encI (n : Int))) ∧ Below w.heap.size w w' := by
  obtain ⟨ba, rb⟩ := box_start w 28 [.int .i64 x, .int .i64 y]
  have hb2 := okP_iff.1 hp
  have hps := (chkP_iff.1 he).2.1
  have HC := Lib.hid (least_ok ps v x y x y 67 (fun q => -(fd q (x, y))) _ (hv.grow ba) he hp (enters_of Try.func67 (by kernel_rfl) rfl) (fun W a b hm => near_any x y a b W hb2.1 hb2.2 (hps _ hm).1 (hps _ hm).2))
  have HSZ := Lib.hid ba.size
  have HQ := Lib.hid (show FarthestL ps (x, y) = whL ps (fun q => decide (-(fd q (x, y)) = lowK (fun q => -(fd q (x, y)) ) ps ps.length)) from rfl)
  rw [← HQ.out] at HC
  generalize FarthestL ps (x, y) = Q at *
  have k0 := rb.cell 0
  have k1 := rb.cell 1
  simp only [List.getElem?_cons_zero, List.getElem?_cons_succ] at k0 k1
  have BA := Lib.hid ba
  obtain ⟨a, c, rfl, _⟩ := hv
  generalize hln : ps.length = n at *
  have HLN := Lib.hid hln
  clear he hp hb2 hps HQ
  clear ba rb hln
  go_enter Try.func25, Try.ntmps25
  go_wp2_with fail
  refine HC.out.mono ?_
  rintro e w1 ⟨s, rfl, ho, hb⟩
  have BB := Lib.hid (Below.andThen BA.out hb (Nat.le_refl _))
  have HO := Lib.hid (owns_mono ho HSZ.out)
  clear hb BA ho
  clear k0 k1 HC
  go_wp2_with fail
  refine bodyPost_ret (v := .tuple #[s, .int .i64 0]) (by simp [results, Try.results25, go_sem]) rfl ⟨s, rfl, HO.out, BB.out⟩
end Go.Proofs.Ytlemipnplgbckaa
namespace Go.Proofs.Ytlemipnplgbckaa
open Go.RowKit Go.Shelf
attribute [local go_sem] Oper.semAt_some
theorem chk_bad2 {ps : List Pt} {k : Nat} (h : k < ps.length) (hb : okP ps[k] = false ∨ ps[k] ∈ ps.take k) : chkP ps = false := by
  have := chk_bad h hb
  unfold errP at this
  cases hc : chkP ps with
  | false => rfl
  | true => rw [hc, if_pos rfl] at this; cases this
set_option maxRecDepth 100000 in
set_option maxHeartbeats 1000000 in
theorem Points_any (ps : List Pt) (v : Value) (w : World) (hv : SlP w v ps) (hl : ps.length ≤ 1000000) :
    Calls Try.prog 16 #[v] w fun e w' => e = .returned (.bool (chkP ps)) ∧ Below w.heap.size w w' := by
  obtain ⟨a, c, rfl, hc, hs⟩ := hv
  have HS := Lib.hid hs
  obtain ⟨E, hE⟩ : ∃ E : Bool, chkP ps = E := ⟨_, rfl⟩
  rw [hE]
  have HE := Lib.hid hE
  have HBAD := Lib.hid (fun k h hb => (hE ▸ chk_bad2 (ps := ps) (k := k) h hb : E = false))
  obtain ⟨n, hn⟩ : ∃ n, ps.length = n := ⟨_, rfl⟩
  have HN := Lib.hid hn
  rw [hn] at hl hc ⊢
  clear hs hE hn
  go_enter Try.func16, Try.ntmps16
  go_wp2_with fail
  go_loopw [3] (fun iv wr => ∃ k : Nat, k ≤ n ∧ iv = .int .i64 (k : Int) ∧ Hid ((∀ p ∈ ps.take k, okP p = true) ∧ (ps.take k).Nodup ∧ Below w.heap.size w wr)) (fun iv _ => (n - intOf iv).toNat)
  case atStart => exact ⟨0, by omega, rfl, Lib.hid ⟨by simp, by simp, Below.refl _ _⟩⟩
  case round =>
    obtain ⟨i, hk, rfl, HB⟩ := hrel
    have iw : IntKind.i64.wrap ((i : Int) + 1) = ((i + 1 : Nat) : Int) := by rw [i64_of _ (by omega) (by omega)]; omega
    by_cases hlt : i < n
    · have hd : decide ((i : Int) < (n : Int)) = true := decide_eq_true (by omega)
      have hdn : decide (i < n) = true := decide_eq_true hlt
      have hlk : i < ps.length := by rw [HN.out]; exact hlt
      obtain ⟨g, o, rfl, hps⟩ : ∃ g o, a = some ⟨g, o, none⟩ ∧ PtsAt w g o ps := HS.out.resolve_left (fun e => by rw [e] at hlk; simp at hlk)
      have HPA := Lib.hid hps
      have hp2 : PtsAt wr g o ps := hps.below HB.out.2.2 hps.lt
      have k0 := hp2.x i hlk
      have k1 := hp2.y i hlk
      have HXI := Lib.hid (And.intro (fun W (hb : Below w.heap.size w W) => (hps.grow hb).x i hlk) (fun W (hb : Below w.heap.size w W) => (hps.grow hb).y i hlk))
      have HTS := Lib.hid (show ps.take (i + 1) = ps.take i ++ [ps[i]] from List.take_succ_eq_append_getElem hlk)
      have HBK := Lib.hid (HBAD.out i hlk)
      clear hps hp2
      generalize ps[i] = pk at *
      clear hlk
      obtain ⟨x, y⟩ := pk
      dsimp only at k0 k1 HXI
      have HIN := Lib.hid (fun (W : World) => In_any x y W)
      obtain ⟨ok, hok⟩ : ∃ ok, okP (x, y) = ok := ⟨_, rfl⟩
      rw [hok] at HIN
      have HOK := Lib.hid hok
      clear hok
      go_wp2_with fail
      refine (HIN.out _).mono ?_
      rintro e w1 ⟨rfl, hb1⟩
      have B1 := Lib.hid (Below.andThen HB.out.2.2 hb1 (Nat.le_refl _))
      clear hb1 HIN k0 k1
      cases ok with
      | false =>
        have HZ := Lib.hid (HBK.out (.inl HOK.out))
        go_wp2_with fail
        go_ret
        exact ⟨ret_bool HZ.out.symm, B1.out⟩
      | true =>
        go_wp2_with fail
        generalize hwr : wr = wi at *
        have HWR := Lib.hid hwr
        clear hwr
        go_loopw [4] (fun jv wr => ∃ j : Nat, j ≤ i ∧ jv = .int .i64 (j : Int) ∧ Hid ((x, y) ∉ ps.take j ∧ Below w.heap.size w wr)) (fun jv _ => (i - intOf jv).toNat)
        case atStart => exact ⟨0, by omega, rfl, Lib.hid ⟨by simp, B1.out⟩⟩
        case round =>
          obtain ⟨j, hj, rfl, HJ⟩ := hrel
          have jw : IntKind.i64.wrap ((j : Int) + 1) = ((j + 1 : Nat) : Int) := by rw [i64_of _ (by omega) (by omega)]; omega
          by_cases hlj : j < i
          · have hdj : decide ((j : Int) < (i : Int)) = true := decide_eq_true (by omega)
            have hdjn : decide (j < i) = true := decide_eq_true hlj
            have hljp : j < ps.length := by rw [HN.out]; omega
            have HXJ := Lib.hid (And.intro (fun W (hb : Below w.heap.size w W) => (HPA.out.grow hb).x j hljp) (fun W (hb : Below w.heap.size w W) => (HPA.out.grow hb).y j hljp))
            have HTJ := Lib.hid (show ps.take (j + 1) = ps.take j ++ [ps[j]] from List.take_succ_eq_append_getElem hljp)
            have HMJ := Lib.hid (show ps[j] ∈ ps.take i from List.mem_take_iff_getElem.2 ⟨j, by omega, rfl⟩)
            generalize ps[j] = pj at *
            clear hljp
            obtain ⟨x', y'⟩ := pj
            dsimp only at HXJ
            obtain ⟨Q, hQ⟩ : ∃ Q, decide ((x, y) = (x', y')) = Q := ⟨_, rfl⟩
            have HEQ := Lib.hid (fun W => hQ ▸ eq28 x y x' y' W)
            have HQ := Lib.hid hQ
            clear hQ
            have hjn : (j : Int) < (n : Int) := by omega
            go_wp2_with fail
            refine wp_region_box (by kernel_rfl) (by kernel_rfl) [22, 23, 24, 25, 26, 27, 28, 29, 30] [(fun v => v = .slice (some ⟨g, o, none⟩) n c), (fun v => v = .int .i64 (i : Int)), (fun v => v = .pointer (some ⟨g, o + i * 2, none⟩)), (fun v => v = .agg #[.int .i64 x, .int .i64 y]), (fun v => v = .slice (some ⟨g, o, none⟩) n c), (fun v => v = .int .i64 (j : Int)), (fun v => v = .pointer (some ⟨g, o + j * 2, none⟩)), (fun v => v = .agg #[.int .i64 x', .int .i64 y']), (fun v => v = .bool Q)] [none, none, none, none, none, none, none, none, none] [none, none, none, none, none, none, none, none, none] 9 rfl (by kernel_rfl) ?tr ⟨[u22, u23, u24, u25, u26, u27, u28, u29, u30], by simp only [putAll, Act.put, List.setIfInBounds_toArray, List.set_cons_succ, List.set_cons_zero], rfl⟩ ?steps ?fin
            case tr =>
              rintro i v h
              rcases i with _ | _ | _ | _ | _ | _ | _ | _ | _ | i
              all_goals first | trivial | (exfalso; rcases h with h | h <;> simp at h)
            case steps =>
              simp only [boxSteps, Nat.reduceAdd, Nat.zero_add, List.getD_cons_succ, List.getD_cons_zero]
              refine ⟨?_, ?_, ?_, ?_, ?_, ?_, ?_, ?_, ?_, trivial⟩
              · rintro vs W K hc hvl hw hK
                obtain ⟨x0, x1, x2, x3, x4, x5, x6, x7, x8, rfl⟩ := len9 hvl
                have HK := Lib.hid hK
                have HC := Lib.hid hc
                have HW := Lib.hid hw
                clear hK hc hw hvl
                simp only [putAll, Act.put, List.setIfInBounds_toArray, List.set_cons_succ, List.set_cons_zero]
                clear HW
                go_wp2_with fail
                have fin := HK.out (.slice (some ⟨g, o, none⟩) n c) W (Below.refl _ _) rfl
                simp only [putAll, Act.put, List.setIfInBounds_toArray, List.set_cons_succ, List.set_cons_zero] at fin
                exact fin
              · rintro vs W K hc hvl hw hK
                obtain ⟨x0, x1, x2, x3, x4, x5, x6, x7, x8, rfl⟩ := len9 hvl
                have HK := Lib.hid hK
                have HC := Lib.hid hc
                have HW := Lib.hid hw
                clear hK hc hw hvl
                simp only [putAll, Act.put, List.setIfInBounds_toArray, List.set_cons_succ, List.set_cons_zero]
                clear HW
                go_wp2_with fail
                have fin := HK.out (.int .i64 (i : Int)) W (Below.refl _ _) rfl
                simp only [putAll, Act.put, List.setIfInBounds_toArray, List.set_cons_succ, List.set_cons_zero] at fin
                exact fin
              · rintro vs W K hc hvl hw hK
                obtain ⟨x0, x1, x2, x3, x4, x5, x6, x7, x8, rfl⟩ := len9 hvl
                have HK := Lib.hid hK
                have HC := Lib.hid hc
                have HW := Lib.hid hw
                clear hK hc hw hvl
                obtain rfl : x0 = .slice (some ⟨g, o, none⟩) n c := box_get (HW.out ⟨0, .data⟩ (by simp) rfl) rfl
                obtain rfl : x1 = .int .i64 (i : Int) := box_get (HW.out ⟨1, .data⟩ (by simp) rfl) rfl
                simp only [putAll, Act.put, List.setIfInBounds_toArray, List.set_cons_succ, List.set_cons_zero]
                have hi1 : (i : Int) < (n : Int) := by omega
                clear HW
                go_wp2_with fail
                have fin := HK.out (.pointer (some ⟨g, o + i * 2, none⟩)) W (Below.refl _ _) rfl
                simp only [putAll, Act.put, List.setIfInBounds_toArray, List.set_cons_succ, List.set_cons_zero] at fin
                exact fin
              · rintro vs W K hc hvl hw hK
                obtain ⟨x0, x1, x2, x3, x4, x5, x6, x7, x8, rfl⟩ := len9 hvl
                have HK := Lib.hid hK
                have HC := Lib.hid hc
                have HW := Lib.hid hw
                clear hK hc hw hvl
                obtain rfl : x2 = .pointer (some ⟨g, o + i * 2, none⟩) := box_get (HW.out ⟨2, .data⟩ (by simp) rfl) rfl
                simp only [putAll, Act.put, List.setIfInBounds_toArray, List.set_cons_succ, List.set_cons_zero]
                have d0 := HXI.out.1 W (Below.andThen HJ.out.2 HC.out (Nat.le_refl _))
                have d1 := HXI.out.2 W (Below.andThen HJ.out.2 HC.out (Nat.le_refl _))
                clear HW
                go_wp2_with fail
                have fin := HK.out (.agg #[.int .i64 x, .int .i64 y]) W (Below.refl _ _) rfl
                simp only [putAll, Act.put, List.setIfInBounds_toArray, List.set_cons_succ, List.set_cons_zero] at fin
                exact fin
              · rintro vs W K hc hvl hw hK
                obtain ⟨x0, x1, x2, x3, x4, x5, x6, x7, x8, rfl⟩ := len9 hvl
                have HK := Lib.hid hK
                have HC := Lib.hid hc
                have HW := Lib.hid hw
                clear hK hc hw hvl
                simp only [putAll, Act.put, List.setIfInBounds_toArray, List.set_cons_succ, List.set_cons_zero]
                clear HW
                go_wp2_with fail
                have fin := HK.out (.slice (some ⟨g, o, none⟩) n c) W (Below.refl _ _) rfl
                simp only [putAll, Act.put, List.setIfInBounds_toArray, List.set_cons_succ, List.set_cons_zero] at fin
                exact fin
              · rintro vs W K hc hvl hw hK
                obtain ⟨x0, x1, x2, x3, x4, x5, x6, x7, x8, rfl⟩ := len9 hvl
                have HK := Lib.hid hK
                have HC := Lib.hid hc
                have HW := Lib.hid hw
                clear hK hc hw hvl
                simp only [putAll, Act.put, List.setIfInBounds_toArray, List.set_cons_succ, List.set_cons_zero]
                clear HW
                go_wp2_with fail
                have fin := HK.out (.int .i64 (j : Int)) W (Below.refl _ _) rfl
                simp only [putAll, Act.put, List.setIfInBounds_toArray, List.set_cons_succ, List.set_cons_zero] at fin
                exact fin
              · rintro vs W K hc hvl hw hK
                obtain ⟨x0, x1, x2, x3, x4, x5, x6, x7, x8, rfl⟩ := len9 hvl
                have HK := Lib.hid hK
                have HC := Lib.hid hc
                have HW := Lib.hid hw
                clear hK hc hw hvl
                obtain rfl : x4 = .slice (some ⟨g, o, none⟩) n c := box_get (HW.out ⟨4, .data⟩ (by simp) rfl) rfl
                obtain rfl : x5 = .int .i64 (j : Int) := box_get (HW.out ⟨5, .data⟩ (by simp) rfl) rfl
                simp only [putAll, Act.put, List.setIfInBounds_toArray, List.set_cons_succ, List.set_cons_zero]
                clear HW
                go_wp2_with fail
                have fin := HK.out (.pointer (some ⟨g, o + j * 2, none⟩)) W (Below.refl _ _) rfl
                simp only [putAll, Act.put, List.setIfInBounds_toArray, List.set_cons_succ, List.set_cons_zero] at fin
                exact fin
              · rintro vs W K hc hvl hw hK
                obtain ⟨x0, x1, x2, x3, x4, x5, x6, x7, x8, rfl⟩ := len9 hvl
                have HK := Lib.hid hK
                have HC := Lib.hid hc
                have HW := Lib.hid hw
                clear hK hc hw hvl
                obtain rfl : x6 = .pointer (some ⟨g, o + j * 2, none⟩) := box_get (HW.out ⟨6, .data⟩ (by simp) rfl) rfl
                simp only [putAll, Act.put, List.setIfInBounds_toArray, List.set_cons_succ, List.set_cons_zero]
                have d0 := HXJ.out.1 W (Below.andThen HJ.out.2 HC.out (Nat.le_refl _))
                have d1 := HXJ.out.2 W (Below.andThen HJ.out.2 HC.out (Nat.le_refl _))
                clear HW
                go_wp2_with fail
                have fin := HK.out (.agg #[.int .i64 x', .int .i64 y']) W (Below.refl _ _) rfl
                simp only [putAll, Act.put, List.setIfInBounds_toArray, List.set_cons_succ, List.set_cons_zero] at fin
                exact fin
              · rintro vs W K hc hvl hw hK
                obtain ⟨x0, x1, x2, x3, x4, x5, x6, x7, x8, rfl⟩ := len9 hvl
                have HK := Lib.hid hK
                have HC := Lib.hid hc
                have HW := Lib.hid hw
                clear hK hc hw hvl
                obtain rfl : x3 = .agg #[.int .i64 x, .int .i64 y] := box_get (HW.out ⟨3, .data⟩ (by simp) rfl) rfl
                obtain rfl : x7 = .agg #[.int .i64 x', .int .i64 y'] := box_get (HW.out ⟨7, .data⟩ (by simp) rfl) rfl
                simp only [putAll, Act.put, List.setIfInBounds_toArray, List.set_cons_succ, List.set_cons_zero]
                have heq := HEQ.out W
                clear HW
                go_wp2_with fail
                have fin := HK.out (.bool Q) W (Below.refl _ _) rfl
                simp only [putAll, Act.put, List.setIfInBounds_toArray, List.set_cons_succ, List.set_cons_zero] at fin
                exact fin
            case fin =>
              rintro vs W hJ
              obtain ⟨x0, x1, x2, x3, x4, x5, x6, x7, x8, rfl⟩ := len9 hJ.ln
              obtain rfl : x8 = .bool Q := box_get (hJ.val 8 rfl) rfl
              have HC := Lib.hid hJ.bl
              clear hJ
              simp only [putAll, Act.put, List.setIfInBounds_toArray, List.set_cons_succ, List.set_cons_zero]
              have HC2 := HC
              clear HC HEQ
              cases Q with
              | true =>
                have HZ := Lib.hid (HBK.out (.inr (by have h := of_decide_eq_true HQ.out; rw [h]; exact HMJ.out)))
                go_wp2_with fail
                go_ret
                exact ⟨ret_bool HZ.out.symm, Below.andThen HJ.out.2 HC2.out (Nat.le_refl _)⟩
              | false =>
                have HN2 := Lib.hid (show (x, y) ∉ ps.take (j + 1) by
                  rw [HTJ.out, List.mem_append, List.mem_singleton]
                  exact fun h => h.elim HJ.out.1 (of_decide_eq_false HQ.out))
                go_wp2_with fail
                exact ⟨⟨j + 1, by omega, by simp, Lib.hid ⟨HN2.out, Below.andThen HJ.out.2 HC2.out (Nat.le_refl _)⟩⟩, by simp [intOf]; omega⟩
          · have hdj : decide ((j : Int) < (i : Int)) = false := decide_eq_false (by omega)
            have hdjn : decide (j < i) = false := decide_eq_false hlj
            obtain rfl : j = i := by omega
            have HN2 := Lib.hid (show (∀ p ∈ ps.take (j + 1), okP p = true) ∧ (ps.take (j + 1)).Nodup by
              rw [HTS.out]
              refine ⟨fun p hp => ?_, ?_⟩
              · rcases List.mem_append.1 hp with hp | hp
                · exact HB.out.1 p hp
                · rw [List.mem_singleton.1 hp]; exact HOK.out
              · rw [List.nodup_append]
                refine ⟨HB.out.2.1, by simp, fun p hp q hq e => ?_⟩
                rw [List.mem_singleton.1 hq] at e
                subst e
                exact HJ.out.1 hp)
            go_wp2_with fail
            exact ⟨⟨j + 1, by omega, by simp, Lib.hid ⟨HN2.out.1, HN2.out.2, HJ.out.2⟩⟩, by simp [intOf]; omega⟩
    · have hd : decide ((i : Int) < (n : Int)) = false := decide_eq_false (by omega)
      have hdn : decide (i < n) = false := decide_eq_false hlt
      obtain rfl : i = n := by omega
      have h1 := HB.out.1
      have h2 := HB.out.2.1
      rw [← HN.out, List.take_length] at h1 h2
      have HZ := Lib.hid (show E = (decide (1 ≤ i) && decide (i ≤ 12)) by
        rw [← HE.out, ← HN.out]
        unfold chkP
        rw [List.all_eq_true.2 h1, decide_eq_true h2, Bool.and_true, Bool.and_true])
      clear h1 h2
      by_cases hz : 1 ≤ i
      · have d1 : decide (1 ≤ (i : Int)) = true := decide_eq_true (by omega)
        have d1n : decide (1 ≤ i) = true := decide_eq_true hz
        by_cases hz2 : i ≤ 12
        · have d2 : decide ((i : Int) ≤ 12) = true := decide_eq_true (by omega)
          have d2n : decide (i ≤ 12) = true := decide_eq_true hz2
          have HZ2 := Lib.hid (show E = true by rw [HZ.out, d1n, d2n]; rfl)
          go_wp2_with fail
          go_ret
          exact ⟨ret_bool HZ2.out.symm, HB.out.2.2⟩
        · have d2 : decide ((i : Int) ≤ 12) = false := decide_eq_false (by omega)
          have d2n : decide (i ≤ 12) = false := decide_eq_false hz2
          have HZ2 := Lib.hid (show E = false by rw [HZ.out, d1n, d2n]; rfl)
          go_wp2_with fail
          go_ret
          exact ⟨ret_bool HZ2.out.symm, HB.out.2.2⟩
      · have d1 : decide (1 ≤ (i : Int)) = false := decide_eq_false (by omega)
        have d1n : decide (1 ≤ i) = false := decide_eq_false hz
        have HZ2 := Lib.hid (show E = false by rw [HZ.out, d1n]; rfl)
        go_wp2_with fail
        go_ret
        exact ⟨ret_bool HZ2.out.symm, HB.out.2.2⟩
end Go.Proofs.Ytlemipnplgbckaa
namespace Go.Proofs.Ytlemipnplgbckaa
open Go.RowKit Go.Shelf
attribute [local go_sem] Oper.semAt_some
section
variable {P : Program} {w : World}
theorem wpList_append_run {ops : Array Oper} {rest : List Oper} {o : Oper} {a : Act} {Q : Exit → Act → World → Prop} (hgd : o.guard = none) (s x : Operand) (t : TypeId) (ho : o.op = .call { callee := .builtin .append, args := #[s, x], argTypes := #[t, t] })
    (v1 v2 v : Value) (w' : World) (hs : a.eval s = v1) (hx : a.eval x = v2) (hr : (Builtin.append_ #[t, t] o.type #[v1, v2]).run P w = .ok v w') (h : wpList P ops Q rest (a.put o.dst v) w') : wpList P ops Q (o :: rest) a w :=
  wpList_plain hgd fun _ hK => by
    unfold Oper.wp execOp
    simp only [ho, resolve, invoke, builtin, Sem.run_bind, Sem.run_pure, Result.andThen_ok, List.map_toArray, List.map_cons, List.map_nil, hs, hx, hr]
    exact hK _ _ h
end
theorem flat_one1 : ∀ (ps : List Pt), ∀ u ∈ flat ps, u.oneCell' = true
  | [], u, h => by simp [flat] at h
  | p :: ps, u, h => by
    simp [flat] at h
    rcases h with rfl | rfl | h
    · rfl
    · rfl
    · exact flat_one1 ps u h
theorem append_nils (w : World) : (Builtin.append_ #[22, 22] 22 #[.slice none 0 0, .slice none 0 0]).run Try.prog w = .ok (.slice none 0 0) w := by
  obtain ⟨i0, hi, hz0, hz1, hz2⟩ := info_parts info28
  simp [Builtin.append_, run_underlying Try.underlying22, sizeOf, typeInfo, hi, Builtin.lenOf, Builtin.firstCells]
/-- a copy of the first points of a slice -/
theorem app_src (W : World) (g o m c : Nat) (ps : List Pt) (h : PtsAt W g o ps) (hm : m ≤ ps.length) (hl : m ≤ 1000) :
    ∃ v' W', (Builtin.append_ #[22, 22] 22 #[.slice none 0 0, .slice (some ⟨g, o, none⟩) m c]).run Try.prog W = .ok v' W' ∧ OwnP W' W.heap.size v' (ps.take m) ∧ Below W.heap.size W W' := by
  obtain ⟨i0, hi, hz0, hz1, hz2⟩ := info_parts info28
  obtain ⟨v', W', h1, h2, h3, _, _⟩ := run_append_own_at (P := Try.prog) (w := W) W.heap.size 22 22 28 i0 (.agg #[.int .i64 0, .int .i64 0]) 2 16 Try.underlying22 hi hz0 hz1 hz2 rfl (by decide) (.slice none 0 0) 0 [] (World.ownsRow_nil _ _ _ _)
    ⟨g, o, none⟩ m c (flat (ps.take m)) (by rw [flat_length, List.length_take, Nat.min_eq_left hm]) (pts_cells h m) (flat_one1 _) (by unfold maxLen; omega) (by omega) (Nat.le_refl _)
  refine ⟨v', W', h1, ?_, (Below.refl W.heap.size W).grown h3 (Nat.le_refl _) (fun r e => by cases e)⟩
  unfold OwnP
  rw [List.length_take, Nat.min_eq_left hm]
  simpa using h2
theorem app_copy (W : World) (n₀ : Nat) (v : Value) (ps : List Pt) (h : OwnP W n₀ v ps) (hl : ps.length ≤ 1000) :
    ∃ v' W', (Builtin.append_ #[22, 22] 22 #[.slice none 0 0, v]).run Try.prog W = .ok v' W' ∧ OwnP W' W.heap.size v' ps ∧ Below W.heap.size W W' := by
  obtain ⟨a, c, rfl, hh⟩ := OwnP.open h
  rcases hh with ⟨rfl, rfl, rfl⟩ | ⟨g, _, rfl, hp, _⟩
  · exact ⟨_, W, append_nils W, World.ownsRow_nil _ _ _ _, Below.refl _ _⟩
  · have := app_src W g 0 ps.length c ps hp (Nat.le_refl _) hl
    rwa [List.take_length] at this
theorem app_one (W : World) (n₀ : Nat) (v : Value) (ps : List Pt) (x y : Int) (g : Nat) (h : OwnP W n₀ v ps) (hn : n₀ ≤ W.heap.size) (hl : ps.length ≤ 1000) (hr : Row W g 28 [.int .i64 x, .int .i64 y]) :
    ∃ v' W', (Builtin.append_ #[22, 22] 22 #[v, .slice (some ⟨g, 0, none⟩) 1 1]).run Try.prog W = .ok v' W' ∧ OwnP W' n₀ v' (ps ++ [(x, y)]) ∧ Below n₀ W W' := by
  obtain ⟨i0, hi, hz0, hz1, hz2⟩ := info_parts info28
  obtain ⟨v', W', h1, h2, h3, _, _⟩ := run_append_own_at (P := Try.prog) (w := W) n₀ 22 22 28 i0 (.agg #[.int .i64 0, .int .i64 0]) 2 16 Try.underlying22 hi hz0 hz1 hz2 rfl (by decide) v ps.length (flat ps) h
    ⟨g, 0, none⟩ 1 1 [.int .i64 x, .int .i64 y] rfl (fun j u hu => by
      rw [Go.WideShapes.add_plain, Nat.zero_add, hr.cell]; exact hu) (by simp [Value.oneCell']) (by unfold maxLen; omega) (by omega) hn
  refine ⟨v', W', h1, ?_, (Below.refl n₀ W).grown h3 hn (fun r e => (World.ownsRow.lt h r e).1)⟩
  unfold OwnP
  rw [flat_snoc, List.length_append, List.length_singleton]
  exact h2
theorem slice_upto (a : Option Addr) (n c m : Nat) (hm : m ≤ c) (w : World) :
    (Instr.slice 22 (.slice a n c) none (some (.int .i64 (m : Int))) none).run Try.prog w = .ok (.slice a m c) w := by
  have ht : Try.prog.underlying 22 = some (.slice (Try.prog.elem 22)) := by simp [Program.elem, Try.underlying22]
  have he : Try.prog.elem 22 = 28 := by simp [Program.elem, Try.underlying22]
  have size28 : (Go.sizeOf 28).run Try.prog w = .ok 2 w := by kernel_rfl
  rw [run_slice_h w 22 _ _ _ ht .i64 _ (by omega) (by omega), he, size28]
  cases a with
  | none => simp [Result.andThen, sliced]
  | some a => simp [Result.andThen, sliced, Addr.add]
set_option maxRecDepth 100000 in
set_option maxHeartbeats 1000000 in
theorem own_any (ps : List Pt) (a : Option Addr) (c : Nat) (w : World) (hv : SlP w (.slice a ps.length c) ps) (hn : a = none → c = 0) (hl : ps.length ≤ maxLen) :
    Calls Try.prog 15 #[.slice a ps.length c] w fun e w' => ∃ v, e = .returned v ∧ OwnP w' w.heap.size v (ps.take 13) ∧ Below w.heap.size w w' := by
  obtain ⟨a', c', he, hc, hp⟩ := hv
  cases he
  cases a with
  | none =>
    have hc0 := hn rfl
    subst hc0
    have hps : ps = [] := List.eq_nil_of_length_eq_zero (by omega)
    subst hps
    have s1 : ∀ w, (Instr.slice 22 (.slice none 0 0) none (some (.int .i64 0)) none).run Try.prog w = .ok (.slice none 0 0) w := fun w => slice_upto none 0 0 0 (by omega) w
    go_enter Try.func15, Try.ntmps15
    go_wp2_with (at_builtin; refine wpList_append_run rfl _ _ 22 rfl _ _ _ _ rfl rfl (append_nils w) ?_)
    go_ret
    exact ⟨_, rfl, World.ownsRow_nil _ _ _ _, Below.refl _ _⟩
  | some a =>
  have key : ∀ m, m ≤ ps.length → m ≤ 13 → ∃ v' W', (Builtin.append_ #[22, 22] 22 #[.slice none 0 0, .slice (some a) m c]).run Try.prog w = .ok v' W' ∧ OwnP W' w.heap.size v' (ps.take m) ∧ Below w.heap.size w W' := by
    intro m hm h13
    rcases hp with rfl | ⟨b, o, he, hp⟩
    · have hm0 : m = 0 := by simpa using hm
      subst hm0
      obtain ⟨i0, hi, hz0, hz1, hz2⟩ := info_parts info28
      obtain ⟨v', W', h1, h2, h3, _, _⟩ := run_append_own_at (P := Try.prog) (w := w) w.heap.size 22 22 28 i0 (.agg #[.int .i64 0, .int .i64 0]) 2 16 Try.underlying22 hi hz0 hz1 hz2 rfl (by decide) (.slice none 0 0) 0 [] (World.ownsRow_nil _ _ _ _)
        a 0 c [] rfl (fun j u h => by simp at h) (fun u h => by cases h) (by unfold maxLen; omega) (by omega) (Nat.le_refl _)
      exact ⟨v', W', h1, by simpa [OwnP, flat] using h2, (Below.refl w.heap.size w).grown h3 (Nat.le_refl _) (fun r e => by cases e)⟩
    · cases he
      exact app_src w b o m c ps hp hm (by omega)
  by_cases h13 : ps.length ≤ 13
  · obtain ⟨v', W', h1, h2, h3⟩ := key ps.length (Nat.le_refl _) h13
    have s1 : ∀ w, (Instr.slice 22 (.slice (some a) ps.length c) none (some (.int .i64 (ps.length : Int))) none).run Try.prog w = .ok (.slice (some a) ps.length c) w := fun w => slice_upto (some a) _ c _ (by omega) w
    have H := Lib.hid (And.intro h1 (And.intro h2 h3))
    have HT := Lib.hid (show ps.take ps.length = ps.take 13 by rw [List.take_length, List.take_of_length_le h13])
    have hmin : min (ps.length : Int) 13 = (ps.length : Int) := by omega
    clear h1 h2 h3 key
    go_enter Try.func15, Try.ntmps15
    go_wp2_with (at_builtin; refine wpList_append_run rfl _ _ 22 rfl _ _ _ _ rfl rfl H.out.1 ?_)
    go_ret
    exact ⟨_, rfl, by rw [← HT.out]; exact H.out.2.1, H.out.2.2⟩
  · obtain ⟨v', W', h1, h2, h3⟩ := key 13 (by omega) (Nat.le_refl _)
    have s1 : ∀ w, (Instr.slice 22 (.slice (some a) ps.length c) none (some (.int .i64 13)) none).run Try.prog w = .ok (.slice (some a) 13 c) w := fun w => slice_upto (some a) _ c 13 (by omega) w
    have H := Lib.hid (And.intro h1 (And.intro h2 h3))
    have hmin : min (ps.length : Int) 13 = 13 := by omega
    clear h1 h2 h3 key
    go_enter Try.func15, Try.ntmps15
    go_wp2_with (at_builtin; refine wpList_append_run rfl _ _ 22 rfl _ _ _ _ rfl rfl H.out.1 ?_)
    go_ret
    exact ⟨_, rfl, H.out.2.1, H.out.2.2⟩
end Go.Proofs.Ytlemipnplgbckaa
namespace Go.Proofs.Ytlemipnplgbckaa
open Go.RowKit Go.Shelf
attribute [local go_sem] Oper.semAt_some
/-- points made of any pairs -/
def tmStep (out : List Pt) (p : Pt) : List Pt := if chkP (out ++ [placeF p]) = true then out ++ [placeF p] else out
def tmK (ps : List Pt) (k : Nat) : List Pt := (ps.take k).foldl tmStep []
def tameF (ps : List Pt) : List Pt := if tmK ps ps.length = [] then [(0, 0)] else tmK ps ps.length
theorem tmK_step {ps : List Pt} {k : Nat} (h : k < ps.length) : tmK ps (k + 1) = tmStep (tmK ps k) ps[k] := by
  unfold tmK
  rw [List.take_succ_eq_append_getElem h, List.foldl_append]
  rfl
theorem tmK_ok (ps : List Pt) : ∀ k, k ≤ ps.length → tmK ps k = [] ∨ chkP (tmK ps k) = true
  | 0, _ => .inl (by simp [tmK])
  | k + 1, h => by
    rw [tmK_step (by omega)]
    unfold tmStep
    split
    · right; assumption
    · exact tmK_ok ps k (by omega)
theorem tmK_len (ps : List Pt) (k : Nat) (h : k ≤ ps.length) : (tmK ps k).length ≤ 12 := by
  rcases tmK_ok ps k h with h | h
  · rw [h]; simp
  · exact (chkP_iff.1 h).1.2
theorem tmK_full (ps : List Pt) (k : Nat) (hk : k ≤ ps.length) (h : ¬ (tmK ps k).length < 12) : tmK ps ps.length = tmK ps k := by
  have key : ∀ d, k + d ≤ ps.length → tmK ps (k + d) = tmK ps k := by
    intro d
    induction d with
    | zero => intro _; rfl
    | succ d ih =>
      intro hd
      rw [show k + (d + 1) = k + d + 1 by omega, tmK_step (by omega), ih (by omega)]
      unfold tmStep
      rw [if_neg]
      intro hc
      have := (chkP_iff.1 hc).1.2
      rw [List.length_append, List.length_singleton] at this
      omega
  have := key (ps.length - k) (by omega)
  rwa [show k + (ps.length - k) = ps.length by omega] at this
theorem tameF_ok (ps : List Pt) : chkP (tameF ps) = true := by
  unfold tameF
  split
  · decide +kernel
  · rename_i h
    exact (tmK_ok ps ps.length (Nat.le_refl _)).resolve_left h
theorem own_pt (W : World) (x y : Int) : OwnP (W.alloc (.cells #[.int .i64 x, .int .i64 y] 28)) W.heap.size (.slice (some ⟨W.heap.size, 0, none⟩) 1 1) [(x, y)] :=
  ⟨rfl, .inr ⟨W.heap.size, 1, #[.int .i64 x, .int .i64 y], rfl, Nat.le_refl _, heap_alloc_new W _, Nat.le_refl _, by decide, rfl, rfl⟩⟩
set_option maxRecDepth 100000 in
set_option maxHeartbeats 1000000 in
theorem tame_any (ps : List Pt) (v : Value) (w : World) (hv : SlP w v ps) (hl : ps.length ≤ 9223372036854775807) :
    Calls Try.prog 41 #[v] w fun e w' => ∃ s, e = .returned s ∧ OwnP w' w.heap.size s (tameF ps) ∧ Below w.heap.size w w' := by
  obtain ⟨a, c, rfl, hc, hs⟩ := hv
  have HS := Lib.hid hs
  obtain ⟨n, hn⟩ : ∃ n, ps.length = n := ⟨_, rfl⟩
  have HN := Lib.hid hn
  have HT := Lib.hid (show tameF ps = if tmK ps n = [] then [(0, 0)] else tmK ps n by rw [← hn]; rfl)
  rw [hn] at hl hc ⊢
  clear hs hn
  go_enter Try.func41, Try.ntmps41
  go_wp2_with fail
  go_loopw [4, 3] (fun iv lv wr => ∃ k : Nat, k ≤ n ∧ iv = .int .i64 (k : Int) ∧ Hid (OwnP wr w.heap.size lv (tmK ps k) ∧ Below w.heap.size w wr)) (fun iv _ _ => (n - intOf iv).toNat)
  case atStart => exact ⟨0, by omega, rfl, Lib.hid ⟨World.ownsRow_nil _ _ _ _, Below.refl _ _⟩⟩
  case round =>
    obtain ⟨i, hk, rfl, HB⟩ := hrel
    obtain ⟨ao, co, rfl, _⟩ := OwnP.open HB.out.1
    have HLE := Lib.hid (tmK_len ps i (by rw [HN.out]; exact hk))
    by_cases hlt : i < n ∧ (tmK ps i).length < 12
    · obtain ⟨hlt, hl12⟩ := hlt
      have iw : IntKind.i64.wrap ((i : Int) + 1) = ((i + 1 : Nat) : Int) := by rw [IntWalk.i64_in _ (by omega)]; omega
      have hd : decide ((i : Int) < (n : Int)) = true := decide_eq_true (by omega)
      have hdn : decide (i < n) = true := decide_eq_true hlt
      have hd2 : decide (((tmK ps i).length : Int) < 12) = true := decide_eq_true (by omega)
      have hdn2 : decide ((tmK ps i).length < 12) = true := decide_eq_true hl12
      have hlk : i < ps.length := by rw [HN.out]; exact hlt
      obtain ⟨g, o, rfl, hps⟩ : ∃ g o, a = some ⟨g, o, none⟩ ∧ PtsAt w g o ps := HS.out.resolve_left (fun e => by rw [e] at hlk; simp at hlk)
      have HPX := Lib.hid (And.intro (fun W (hb : Below w.heap.size w W) => (hps.grow hb).x i hlk) (fun W (hb : Below w.heap.size w W) => (hps.grow hb).y i hlk))
      have HST := Lib.hid (tmK_step hlk)
      clear hps
      generalize ps[i] = pk at *
      clear hlk
      obtain ⟨x, y⟩ := pk
      dsimp only at HPX
      obtain ⟨v1, W1, h1, h2, h3⟩ := app_copy wr w.heap.size _ (tmK ps i) HB.out.1 (by omega)
      obtain ⟨a1, c1, rfl, _⟩ := OwnP.open h2
      have A1 := Lib.hid h1
      have O1 := Lib.hid h2
      have B1 := Lib.hid h3
      have BW1 := Lib.hid (Below.andThen HB.out.2 h3 (Nat.le_refl _))
      have k0 := HPX.out.1 W1 BW1.out
      have k1 := HPX.out.2 W1 BW1.out
      clear h1 h2 h3
      go_wp2_with (at_builtin; refine wpList_append_run rfl _ _ 22 rfl _ _ _ _ rfl rfl A1.out ?_)
      refine (place_any x y W1).mono ?_
      rintro e W2 ⟨rfl, hb2⟩
      obtain ⟨b3, r3⟩ := box_start W2 28 [.int .i64 (plN x), .int .i64 (plN y)]
      have O3 := own_grow (own_grow O1.out hb2) b3
      have hsz : wr.heap.size ≤ (W2.alloc (.cells [.int .i64 (plN x), .int .i64 (plN y)].toArray 28)).heap.size := Nat.le_trans B1.out.size (Nat.le_trans hb2.size b3.size)
      obtain ⟨v4, W4, h1, h2, h3⟩ := app_one _ wr.heap.size _ (tmK ps i) (plN x) (plN y) W2.heap.size O3 hsz (by omega) r3
      obtain ⟨a4, c4, rfl, _⟩ := OwnP.open h2
      have A4 := Lib.hid h1
      have O4 := Lib.hid h2
      have B4 := Lib.hid ((Below.andThen (Below.andThen B1.out hb2 (Nat.le_refl _)) b3 (Nat.le_refl _)).trans h3)
      have HPT := Lib.hid (Points_any (tmK ps i ++ [(plN x, plN y)]) _ W4 (slp_own h2) (by rw [List.length_append, List.length_singleton]; omega))
      obtain ⟨E, hE⟩ : ∃ E, chkP (tmK ps i ++ [(plN x, plN y)]) = E := ⟨_, rfl⟩
      rw [hE] at HPT
      have HE := Lib.hid hE
      have HST2 := Lib.hid (show tmK ps (i + 1) = if E = true then tmK ps i ++ [(plN x, plN y)] else tmK ps i by rw [HST.out, ← hE]; rfl)
      have HSZ := Lib.hid HB.out.2.size
      obtain ⟨M, hM⟩ : ∃ M, (tmK ps i ++ [(plN x, plN y)]).length = M := ⟨_, rfl⟩
      rw [hM] at A4 HPT O4
      clear h1 h2 h3 hE hb2 b3 r3 O3 hsz k0 k1 hM
      go_wp2_with (at_builtin; refine wpList_append_run rfl _ _ 22 rfl _ _ _ _ rfl rfl A4.out ?_)
      refine HPT.out.mono ?_
      rintro e W5 ⟨rfl, hb5⟩
      have B5 := Lib.hid (Below.andThen B4.out hb5 (Nat.le_refl _))
      have O5 := Lib.hid (own_grow O4.out hb5)
      have BW5 := Lib.hid (Below.andThen HB.out.2 B5.out (Nat.le_refl _))
      clear hb5 HPT A4 A1
      cases E with
      | true =>
        go_wp2_with fail
        exact ⟨⟨i + 1, by omega, rfl, by rw [HST2.out, if_pos (by trivial)]; exact Lib.hid ⟨owns_mono O5.out HSZ.out, BW5.out⟩⟩, by simp [intOf]; omega⟩
      | false =>
        go_wp2_with fail
        exact ⟨⟨i + 1, by omega, rfl, by rw [HST2.out, if_neg (by simp)]; exact Lib.hid ⟨own_grow HB.out.1 B5.out, BW5.out⟩⟩, by simp [intOf]; omega⟩
    · have hfin : tmK ps n = tmK ps i := by
        by_cases h : i = n
        · rw [h]
        · rw [← HN.out]; exact tmK_full ps i (by rw [HN.out]; exact hk) (fun h2 => hlt ⟨by omega, h2⟩)
      have HOW := Lib.hid HB.out.1
      obtain ⟨T, hT⟩ : ∃ T, tmK ps i = T := ⟨_, rfl⟩
      have HF := Lib.hid (hfin.trans hT)
      rw [hT] at HOW HLE hlt ⊢
      clear hfin hT
      have d1 : (decide ((i : Int) < (n : Int)) && decide ((T.length : Int) < 12)) = false := by
        rw [Bool.and_eq_false_iff, decide_eq_false_iff_not, decide_eq_false_iff_not]
        omega
      have fin : ∀ (Q' : Prop), True := fun _ => trivial
      by_cases hT0 : T = []
      · subst hT0
        have hi2 : ¬ i < n := fun h => hlt ⟨h, by simp⟩
        have hd : decide ((i : Int) < (n : Int)) = false := decide_eq_false (by omega)
        have hdn : decide (i < n) = false := decide_eq_false hi2
        have HP := Lib.hid (own_pt wr 0 0)
        have HSZ := Lib.hid HB.out.2.size
        have HBA := Lib.hid (Below.andThen HB.out.2 (Below.al (Below.refl wr.heap.size wr) (Nat.le_refl _) (.cells #[.int .i64 0, .int .i64 0] 28)) (Nat.le_refl _))
        simp only [List.length_nil] at *
        clear fin d1
        go_wp2_with fail
        refine bodyPost_ret (v := .slice (some ⟨wr.heap.size, 0, none⟩) 1 1) (by simp [results, Try.results41, go_sem]) rfl ⟨_, rfl, ?_, HBA.out⟩
        rw [HT.out, HF.out, if_pos rfl]
        exact owns_mono HP.out HSZ.out
      · have hl0 : T.length ≠ 0 := fun h => hT0 (List.eq_nil_of_length_eq_zero h)
        have d0 : ((T.length : Int) == 0) = false := by simp; omega
        have HT0 := Lib.hid hT0
        clear hT0 hl0 fin d1
        by_cases hi2 : i < n
        · have hd : decide ((i : Int) < (n : Int)) = true := decide_eq_true (by omega)
          have hdn : decide (i < n) = true := decide_eq_true hi2
          have hd2 : decide ((T.length : Int) < 12) = false := decide_eq_false (by omega)
          have hdn2 : decide (T.length < 12) = false := decide_eq_false (by omega)
          go_wp2_with fail
          refine bodyPost_ret (v := .slice ao T.length co) (by simp [results, Try.results41, go_sem]) rfl ⟨_, rfl, ?_, HB.out.2⟩
          rw [HT.out, HF.out, if_neg HT0.out]
          exact HOW.out
        · have hd : decide ((i : Int) < (n : Int)) = false := decide_eq_false (by omega)
          have hdn : decide (i < n) = false := decide_eq_false hi2
          go_wp2_with fail
          refine bodyPost_ret (v := .slice ao T.length co) (by simp [results, Try.results41, go_sem]) rfl ⟨_, rfl, ?_, HB.out.2⟩
          rw [HT.out, HF.out, if_neg HT0.out]
          exact HOW.out
end Go.Proofs.Ytlemipnplgbckaa
namespace Go.Proofs.Ytlemipnplgbckaa
open Go.RowKit Go.Shelf
attribute [local go_sem] Oper.semAt_some
theorem sqi_zero {x : Int} (h : x * x = 0) : x = 0 := by
  rcases Int.mul_eq_zero.1 h with h | h <;> exact h
theorem sqi_nn (x : Int) : 0 ≤ x * x := by
  rcases Int.le_total 0 x with h | h
  · exact Int.mul_nonneg h h
  · exact Int.mul_nonneg_of_nonpos_of_nonpos h h
theorem lowK_le (m : Pt → Int) (ps : List Pt) : ∀ k, k ≤ ps.length → ∀ i, i < k → lowK m ps k ≤ m (ptAt ps i)
  | 0, _, i, h => by omega
  | k + 1, hk, i, h => by
    rw [lowK_step (by omega)]
    rcases Nat.lt_or_ge i k with h2 | h2
    · have := lowK_le m ps k (by omega) i h2; omega
    · obtain rfl : i = k := by omega
      rw [ptAt_lt (by omega)]; omega
theorem lowK_at (m : Pt → Int) (ps : List Pt) (h0 : 0 < ps.length) : ∀ k, k ≤ ps.length → ∃ i, i < ps.length ∧ lowK m ps k = m (ptAt ps i)
  | 0, _ => ⟨0, h0, by simp [lowK]⟩
  | k + 1, hk => by
    rw [lowK_step (by omega)]
    obtain ⟨i, hi, e⟩ := lowK_at m ps h0 k (by omega)
    rcases Int.le_total (lowK m ps k) (m ps[k]) with h | h
    · exact ⟨i, hi, by rw [Int.min_eq_left h, e]⟩
    · exact ⟨k, by omega, by rw [Int.min_eq_right h, ptAt_lt (by omega)]⟩
theorem mem_whL {ps : List Pt} {h : Pt → Bool} {i : Nat} : i ∈ whL ps h ↔ i < ps.length ∧ h (ptAt ps i) = true := by
  unfold whL whK
  rw [List.mem_filter, List.mem_range]
theorem wh_head {ps : List Pt} {m : Pt → Int} (h0 : 0 < ps.length) : ∃ i t, whL ps (fun p => decide (m p = lowK m ps ps.length)) = i :: t ∧ i < ps.length ∧ ∀ k, k < ps.length → m (ptAt ps i) ≤ m (ptAt ps k) := by
  obtain ⟨i, hi, e⟩ := lowK_at m ps h0 ps.length (Nat.le_refl _)
  have hm : i ∈ whL ps (fun p => decide (m p = lowK m ps ps.length)) := mem_whL.2 ⟨hi, decide_eq_true e.symm⟩
  cases hl : whL ps (fun p => decide (m p = lowK m ps ps.length)) with
  | nil => rw [hl] at hm; cases hm
  | cons j t =>
    have hj : j ∈ whL ps (fun p => decide (m p = lowK m ps ps.length)) := by rw [hl]; simp
    obtain ⟨h1, h2⟩ := mem_whL.1 hj
    have h2 := of_decide_eq_true h2
    exact ⟨j, t, rfl, h1, fun k hk => by rw [h2]; exact lowK_le m ps ps.length (Nat.le_refl _) k hk⟩
theorem near_head {ps : List Pt} {p : Pt} (h0 : 0 < ps.length) : ∃ i t, NearestL ps p = i :: t ∧ i < ps.length ∧ ∀ k, k < ps.length → fd (ptAt ps i) p ≤ fd (ptAt ps k) p := wh_head (m := fun q => fd q p) h0
theorem far_head {ps : List Pt} {p : Pt} (h0 : 0 < ps.length) : ∃ i t, FarthestL ps p = i :: t ∧ i < ps.length ∧ ∀ k, k < ps.length → fd (ptAt ps k) p ≤ fd (ptAt ps i) p := by
  obtain ⟨i, t, h1, h2, h3⟩ := wh_head (ps := ps) (m := fun q => -(fd q p)) h0
  exact ⟨i, t, h1, h2, fun k hk => by have := h3 k hk; omega⟩
theorem fd_nn (a b : Pt) : 0 ≤ fd a b := by
  unfold fd
  have h1 := sqi_nn (a.1 - b.1)
  have h2 := sqi_nn (a.2 - b.2)
  omega
theorem fd_zero {a b : Pt} : fd a b = 0 ↔ a = b := by
  constructor
  · intro h
    unfold fd at h
    have h1 := sqi_nn (a.1 - b.1)
    have h2 := sqi_nn (a.2 - b.2)
    have e1 := sqi_zero (show (a.1 - b.1) * (a.1 - b.1) = 0 by omega)
    have e2 := sqi_zero (show (a.2 - b.2) * (a.2 - b.2) = 0 by omega)
    exact Prod.ext (by omega) (by omega)
  · rintro rfl; unfold fd; simp
theorem filter_one {n i : Nat} (hi : i < n) (f : Nat → Bool) (h : ∀ k, k < n → (f k = true ↔ k = i)) : (List.range n).filter f = [i] := by
  have e : (List.range n).filter f = (List.range n).filter (fun k => decide (k = i)) := List.filter_congr fun k hk => by
    rw [List.mem_range] at hk
    rw [Bool.eq_iff_iff, h k hk, decide_eq_true_eq]
  rw [e]
  clear e h f
  induction n with
  | zero => omega
  | succ n ih =>
    rw [List.range_succ, List.filter_append, List.filter_cons, List.filter_nil]
    rcases Nat.lt_or_ge i n with h | h
    · rw [ih h, if_neg (by simp; omega), List.append_nil]
    · obtain rfl : i = n := by omega
      rw [if_pos (by simp)]
      have : (List.range i).filter (fun k => decide (k = i)) = [] := by
        rw [List.filter_eq_nil_iff]
        intro k hk
        rw [List.mem_range] at hk
        simp; omega
      rw [this]; rfl
theorem near_own {ps : List Pt} (hnd : ps.Nodup) {i : Nat} (hi : i < ps.length) : NearestL ps (ptAt ps i) = [i] := by
  have h0 : lowK (fun q => fd q (ptAt ps i)) ps ps.length = 0 := by
    have h1 := lowK_le (fun q => fd q (ptAt ps i)) ps ps.length (Nat.le_refl _) i hi
    obtain ⟨j, _, h2⟩ := lowK_at (fun q => fd q (ptAt ps i)) ps (by omega) ps.length (Nat.le_refl _)
    have h3 := fd_nn (ptAt ps j) (ptAt ps i)
    have h4 : fd (ptAt ps i) (ptAt ps i) = 0 := fd_zero.2 rfl
    omega
  unfold NearestL whL whK
  rw [h0]
  refine filter_one hi _ fun k hk => ?_
  rw [decide_eq_true_eq, fd_zero, ptAt_lt hk, ptAt_lt hi]
  exact (List.getElem_inj hnd)
theorem own_set {W : World} {n₀ e s : Nat} {v : Value} {k : Nat} {xs : List Value} (h : W.ownsRow n₀ e s v k xs) {b : Nat} (hb : b < n₀) (i : Nat) (u : Value) : (W.setCell ⟨b, i, none⟩ u).ownsRow n₀ e s v k xs := by
  refine World.ownsRow.kept (row := some b) h (grown_set W ⟨b, i, none⟩ u) ?_
  cases hv : v.ownBlock with
  | none => exact .inl rfl
  | some g =>
    right
    have := (World.ownsRow.lt h g hv).1
    intro e
    injection e with e
    omega
end Go.Proofs.Ytlemipnplgbckaa
