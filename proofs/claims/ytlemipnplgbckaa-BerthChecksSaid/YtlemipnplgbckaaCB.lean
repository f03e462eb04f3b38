import Derived.Test.YtlemipnplgbckaaCA
import Derived.Test.YtlemipnplgbckaaBW
import Derived.Test.YtlemipnplgbckaaBU
import Derived.Test.YtlemipnplgbckaaBY
import Derived.Laws.AppendOwn
import Derived.ChangeKeysEq
import Derived.Maps.RangeWalk
import Derived.Maps.OwnIn
import Derived.Maps.AppendAt
import Derived.RangeFuncNested
import Derived.RangeFuncBound
import Derived.RangeFuncCalls
import Derived.RangeFuncLeaves
import Derived.Shelf.Abstract
import Derived.Shelf.RegionOpen
import Derived.WalkKit
import Derived.WalkMore
import Derived.OwnWalkIn
import Derived.TacticsInMore
import Derived.LoopNIn
import Derived.LoopIn
import Derived.WalkSpells
import Derived.WalkLawsBesides
import Derived.BigQuiet
import Derived.Deep.QuietTactic
import Derived.Lib.Hide
import Derived.Deep.RegionHeld3
import Derived.StillTailTactics
import Derived.Deep.LoopGhost
import Derived.Maps.OwnSet
import Derived.Lib.IndexAny
import Derived.Sort.QuietThIn
import Derived.Sort.QuietTacIn
import Derived.Sort.BigQuietIn
import Derived.Laws.OwnMore
import Derived.DeepKeys4
import Derived.Maps.Views
import Derived.Maps.OwnOps
import Derived.Laws.OwnMore
import Derived.Deep.DeepCutAuto
import Derived.ChangeKeysEq
namespace Go.Proofs.Ytlemipnplgbckaa
open Go.RowKit Go.Shelf
attribute [local go_sem] Oper.semAt_some
/-- is a triple empty? -/
def empB (ps : List Pt) (t : Nat × Nat × Nat) : Bool := !decide (thD (ptAt ps t.1) (ptAt ps t.2.1) (ptAt ps t.2.2) = 0) && !ps.any (fun p => decide (whF (thC (ptAt ps t.1) (ptAt ps t.2.1) (ptAt ps t.2.2)) p < 0))
def emptyL (ps : List Pt) : List (Nat × Nat × Nat) := (trL ps.length).filter (empB ps)
set_option maxRecDepth 100000 in
set_option maxHeartbeats 1000000 in
theorem Empty_err (ps : List Pt) (v : Value) (w : World) (hv : SlP w v ps) (hl : ps.length ≤ 1000000) (k : Int) (he : errP ps = k) (hk : k ≠ 0) :
    Calls Try.prog 23 #[v] w fun e w' => e = .returned (.tuple #[.slice none 0 0, .int .i64 k]) ∧ Below w.heap.size w w' := by
  obtain ⟨ba, rb⟩ := box_start w 22 [v]
  have HC := Lib.hid (Check_any ps v _ (hv.grow ba) hl)
  rw [he] at HC
  have hd : (k != 0) = true := by simp; exact hk
  obtain ⟨a, c, rfl, _⟩ := hv
  generalize ps.length = n at *
  have k0 := rb.cell 0
  simp only [List.getElem?_cons_zero] at k0
  have BA := Lib.hid ba
  clear ba rb he hl
  refine callsIn_wide.1 (callsIn_of_wp_marks (F := Fence.wide) (n := 4) Try.func23 rfl trivial ?_ rfl)
  simp only [Try.ntmps23, List.size_toArray, List.length_cons, List.length_nil, Nat.reduceAdd, Nat.reduceSub, Array.replicate_succ, Array.replicate_zero, List.push_toArray, List.append_toArray, List.nil_append, List.cons_append]
  gi_wp2_with fail
  refine ⟨trivial, (callsIn_wide.2 HC.out).mono ?_⟩
  rintro e w1 ⟨rfl, hb⟩
  have HB := Lib.hid (Below.andThen BA.out hb (Nat.le_refl _))
  clear hb HC k0
  gi_wp2_with fail
  refine leaves_marks (B := w.heap.size) (fun X => Below w.heap.size w X) (lasts_below _ _ _ (Nat.le_refl _) (Nat.le_refl _)) ?_ [] _ (marks_nil _ _) HB.out
  intro X hX
  refine ⟨.tuple #[.slice none 0 0, .int .i64 k], ?_, rfl, hX⟩
  simp [results, Try.results23, go_sem]
theorem listT_start (w w1 : World) (hb : Below w.heap.size w w1) : ListT w w1.heap.size [] (.slice none 0 0) (w1.alloc (.cells [.slice none 0 0].toArray 39)) := by
  obtain ⟨b2, r2⟩ := box_start w1 39 [.slice none 0 0]
  exact ⟨r2, ⟨by simp [flatT], .inl ⟨rfl, rfl⟩⟩, Below.andThen hb b2 (Nat.le_refl _), hb.size⟩
set_option maxRecDepth 100000 in
set_option maxHeartbeats 1000000 in
theorem Empty_ok (ps : List Pt) (v : Value) (w : World) (hv : SlP w v ps) (he : chkP ps = true) :
    Calls Try.prog 23 #[v] w fun e w' => ∃ s, e = .returned (.tuple #[s, .int .i64 0]) ∧ w'.ownsRow w.heap.size 71 3 s (emptyL ps).length (flatT (emptyL ps)) ∧ Below w.heap.size w w' := by
  obtain ⟨⟨hl1, hl⟩, hps, _⟩ := chkP_iff.1 he
  obtain ⟨ba, rb⟩ := box_start w 22 [v]
  have HC0 := Lib.hid (Check_any ps v _ (hv.grow ba) (by omega))
  rw [show errP ps = 0 by unfold errP; rw [if_pos he]] at HC0
  have HSL := Lib.hid hv
  have HPS := Lib.hid hps
  obtain ⟨n, hn⟩ : ∃ n, ps.length = n := ⟨_, rfl⟩
  obtain ⟨a, c, rfl, hcap, hpt⟩ := hv
  rw [hn] at hcap hl HC0 HSL ba rb
  have HPT := Lib.hid hpt
  have HN := Lib.hid hn
  have k0 := rb.cell 0
  simp only [List.getElem?_cons_zero] at k0
  rw [HN.out]
  have F0 := Lib.hid (And.intro ba rb)
  clear ba rb he hpt hn hps
  refine callsIn_wide.1 (callsIn_of_wp_marks (F := Fence.wide) (n := 4) Try.func23 rfl trivial ?_ rfl)
  simp only [Try.ntmps23, List.size_toArray, List.length_cons, List.length_nil, Nat.reduceAdd, Nat.reduceSub, Array.replicate_succ, Array.replicate_zero, List.push_toArray, List.append_toArray, List.nil_append, List.cons_append]
  gi_wp2_with fail
  refine ⟨trivial, (callsIn_wide.2 HC0.out).mono ?_⟩
  rintro e w1 ⟨rfl, hb1⟩
  have hw1 : Below w.heap.size w w1 := Below.andThen F0.out.1 hb1 (Nat.le_refl _)
  have hlt := listT_start w w1 hw1
  obtain ⟨ba, _⟩ := box_start w1 39 [.slice none 0 0]
  have rb1 := F0.out.2.below hb1 F0.out.2.lt
  have rb2 := rb1.below ba rb1.lt
  have c1 := rb1.cell 0
  have c0 := rb2.cell 0
  simp only [List.getElem?_cons_zero] at c0 c1
  have HTR := Lib.hid (triples_any (n : Int) (w1.alloc (.cells [.slice none 0 0].toArray 39)))
  have HR := Lib.hid rb2
  have HL := Lib.hid hlt
  clear rb1 rb2 hlt ba hb1 k0 HC0 F0
  gi_wp2_with fail
  refine ⟨trivial, (callsIn_wide.2 HTR.out).mono ?_⟩
  generalize w1.alloc (.cells [.slice none 0 0].toArray 39) = wr at *
  generalize w1.heap.size = L at *
  rintro e w2 ⟨rfl, hb, rt⟩
  have rb2 := HR.out.below hb HR.out.lt
  have lc2 := HL.out.below hb
  have SL := Lib.hid (triples_seq n wr.heap.size wr.heap.size (by omega) (Nat.le_refl _) w2 rt)
  have KK := Lib.hid (And.intro rb2 (And.intro lc2 hb.size))
  clear rb2 lc2 hb rt HTR c0
  gi_wp2_with fail
  refine range_list SL.out rfl (enters_of Try.func89 (by kernel_rfl) rfl)
    (fun pre V => Row V w.heap.size 22 [.slice a n c] ∧ ∃ lv, ListT w L (pre.filter (empB ps)) lv V)
    (fun _ _ _ => False) ?hI ?hIx ?h0
    (fun x a' V => ∃ b, a' = { tmps := #[Value.slice a n c, .pointer (some ⟨w.heap.size, 0, none⟩), Value.slice none 0 0, .int .i64 0, .int .i64 0, .pointer (some ⟨L, 0, none⟩), .pointer (some ⟨b, 0, none⟩), undef, undef, undef, Value.slice a n c, .int .i64 0, .int .i64 0, .bool false, undef, Value.slice a n c, .int .i64 (n : Int), .func (.func 89) #[] #[.pointer (some ⟨wr.heap.size, 0, none⟩)], encT x, undef, undef, undef, undef, undef, undef, undef, undef, undef, undef, undef, undef, undef, undef, undef, undef, undef, undef, undef, undef, undef, undef, undef, undef, undef, undef, undef, undef, undef, undef, undef, undef], defers := [] } ∧ wr.heap.size ≤ b ∧ Row V b 71 [.int .i64 (x.1 : Int), .int .i64 (x.2.1 : Int), .int .i64 (x.2.2 : Int)])
    ?hR ?assign ?body ?done ?stop
  case hI =>
    rintro pre V V' row ⟨h1, lv', h2⟩ hg hr
    exact ⟨lasts_row _ _ _ _ V V' row h1 hg hr, lv', lasts_listT _ _ _ _ _ KK.out.2.1.bw.size V V' row h2 hg hr⟩
  case hIx => exact fun _ _ _ _ _ h _ _ => h
  case h0 => exact ⟨KK.out.1, _, by simpa using KK.out.2.1⟩
  case hR =>
    rintro x a' V V' row ⟨b, h1, h2, h3⟩ hg hr
    exact ⟨b, h1, h2, lasts_row _ _ _ _ V V' row h3 hg hr⟩
  case assign =>
    intro l2 x V K hs hK
    have hk := hK _ _ ⟨_, rfl, by have := KK.out.2.2; omega, Row.new V 71 [.int .i64 (x.1 : Int), .int .i64 (x.2.1 : Int), .int .i64 (x.2.2 : Int)]⟩ ((Below.refl V.heap.size V).alloc (Nat.le_refl _) _)
    have HKk := Lib.hid hk
    clear hk hK
    dsimp only [encT]
    simp only [List.setIfInBounds_toArray, List.set_cons_succ, List.set_cons_zero]
    gi_wp2
    exact HKk.out
  case stop =>
    rintro D c pre V hD hpre hf hK
    exact hf.elim
  case done =>
    rintro D V hD ⟨h1, lv', h2⟩ hK
    have c0 := h2.row.cell 0
    simp only [List.getElem?_cons_zero] at c0
    have HA := Lib.hid (show ListT w L (emptyL ps) lv' V by unfold emptyL; rw [HN.out]; exact h2)
    have hK' := Lib.hid (mark1 hK (show w.heap.size ≤ D from Nat.le_trans KK.out.2.1.bw.size hD))
    clear h1 h2 hK
    dsimp only
    simp only [Exit.inBlock]
    gi_wp2_with fail
    refine leaves_marks (B := w.heap.size) (fun X => X.ownsRow w.heap.size 71 3 lv' (emptyL ps).length (flatT (emptyL ps)) ∧ Below w.heap.size w X)
      ((lasts_owns _ _ _ _ _ _ _).and (lasts_below _ _ _ (Nat.le_refl _) (Nat.le_refl _))) ?_ _ _ hK'.out ⟨owns_mono HA.out.own (by have := HA.out.hL; omega), HA.out.bw⟩
    rintro X ⟨ho, hb⟩
    refine ⟨.tuple #[lv', .int .i64 0], ?_, lv', rfl, ho, hb⟩
    simp [results, Try.results23, go_sem]
  case body =>
    rintro l2 x pre a' V hpre hs ⟨h1, lv', h2⟩ ⟨b, rfl, hb, hr⟩
    have hx := mem_trL.1 (hpre.subset (by simp : x ∈ pre ++ [x]))
    obtain ⟨t0, t1, t2⟩ := x
    dsimp only at hx hr
    obtain ⟨g, o, rfl, hpa⟩ : ∃ g o, a = some ⟨g, o, none⟩ ∧ PtsAt w g o ps := by
      rcases HPT.out with h | h
      · have h2 := HN.out; subst h; simp at h2; omega
      · exact h
    have hpa2 := hpa.grow h2.bw
    have i0 : t0 < ps.length := by rw [HN.out]; omega
    have i1 : t1 < ps.length := by rw [HN.out]; omega
    have i2 : t2 < ps.length := by rw [HN.out]; omega
    have HX0 := Lib.hid (And.intro (fun W (hb : Below V.heap.size V W) => (hpa2.grow hb).x t0 i0) (fun W (hb : Below V.heap.size V W) => (hpa2.grow hb).y t0 i0))
    have HX1 := Lib.hid (And.intro (fun W (hb : Below V.heap.size V W) => (hpa2.grow hb).x t1 i1) (fun W (hb : Below V.heap.size V W) => (hpa2.grow hb).y t1 i1))
    have HX2 := Lib.hid (And.intro (fun W (hb : Below V.heap.size V W) => (hpa2.grow hb).x t2 i2) (fun W (hb : Below V.heap.size V W) => (hpa2.grow hb).y t2 i2))
    have q0 := HPS.out _ (List.getElem_mem i0)
    have q1 := HPS.out _ (List.getElem_mem i1)
    have q2 := HPS.out _ (List.getElem_mem i2)
    have ht : empB ps (t0, t1, t2) = (!decide (thD ps[t0] ps[t1] ps[t2] = 0) && !ps.any (fun p => decide (whF (thC ps[t0] ps[t1] ps[t2]) p < 0))) := by
      unfold empB
      dsimp only
      rw [ptAt_lt i0, ptAt_lt i1, ptAt_lt i2]
    generalize ps[t0] = p0 at *
    generalize ps[t1] = p1 at *
    generalize ps[t2] = p2 at *
    obtain ⟨a0, b0⟩ := p0
    obtain ⟨a1, b1⟩ := p1
    obtain ⟨a2, b2⟩ := p2
    dsimp only at HX0 HX1 HX2 q0 q1 q2
    have hth := fun (W : World) => through_any a0 b0 a1 b1 a2 b2 W q0.1 q0.2 q1.1 q1.2 q2.1 q2.2
    obtain ⟨X, Y, D, R, E, hV, hE, hC⟩ : ∃ X Y D R E, thrV (a0, b0) (a1, b1) (a2, b2) = .agg #[.int .i64 X, .int .i64 Y, .int .i64 D, .int .i64 R] ∧ (!decide (thD (a0, b0) (a1, b1) (a2, b2) = 0)) = E ∧
        (E = true → CirB ⟨X, Y, D, R⟩ ∧ empB ps (t0, t1, t2) = !ps.any (fun p => decide (whF ⟨X, Y, D, R⟩ p < 0))) ∧ (E = false → empB ps (t0, t1, t2) = false) := by
      rw [ht]
      by_cases hz : thD (a0, b0) (a1, b1) (a2, b2) = 0
      · exact ⟨0, 0, 0, 0, false, by unfold thrV; rw [if_pos hz]; rfl, by simp [hz], (fun h => by cases h), fun _ => by simp [hz]⟩
      · exact ⟨_, _, _, _, true, by unfold thrV; rw [if_neg hz]; rfl, by simp [hz], (fun _ => ⟨thC_bd q0 q1 q2 hz, by simp [hz]; rfl⟩), fun h => by cases h⟩
    rw [hV, hE] at hth
    have HTH := Lib.hid hth
    have HCE := Lib.hid hC
    have HB3 := Lib.hid hx
    have HF := Lib.hid (And.intro h1 (And.intro h2 (And.intro hr (And.intro hs hb))))
    have HPRE := Lib.hid hpre
    clear hth hV hE hC ht q0 q1 q2 i0 i1 i2 hpa2 hpa hx h1 h2 hr hs hb hpre
    dsimp only [encT]
    gi_wp2_with fail
    refine wpIn_region_box (by kernel_rfl) (by kernel_rfl) [20, 21, 22, 23, 24, 25, 26, 27, 28, 29, 30, 31, 32, 33, 34, 35, 19, 36, 37, 7, 1000, 8] [(fun v => v = .slice (some ⟨g, o, none⟩) n c), (fun v => v = .pointer (some ⟨b, 0, none⟩)), (fun v => v = .int .i64 (t0 : Int)), (fun v => v = .pointer (some ⟨g, o + t0 * 2, none⟩)), (fun v => v = .agg #[.int .i64 a0, .int .i64 b0]), (fun v => v = .slice (some ⟨g, o, none⟩) n c), (fun v => v = .pointer (some ⟨b, 1, none⟩)), (fun v => v = .int .i64 (t1 : Int)), (fun v => v = .pointer (some ⟨g, o + t1 * 2, none⟩)), (fun v => v = .agg #[.int .i64 a1, .int .i64 b1]), (fun v => v = .slice (some ⟨g, o, none⟩) n c), (fun v => v = .pointer (some ⟨b, 2, none⟩)), (fun v => v = .int .i64 (t2 : Int)), (fun v => v = .pointer (some ⟨g, o + t2 * 2, none⟩)), (fun v => v = .agg #[.int .i64 a2, .int .i64 b2]), (fun v => v = .tuple #[.agg #[.int .i64 X, .int .i64 Y, .int .i64 D, .int .i64 R], .bool E]), (fun v => v = .tuple #[.agg #[.int .i64 X, .int .i64 Y, .int .i64 D, .int .i64 R], .bool E]), (fun v => v = .agg #[.int .i64 X, .int .i64 Y, .int .i64 D, .int .i64 R]), (fun v => v = .bool E), (fun _ => True), (fun _ => True), (fun v => v = .bool E)] [none, none, none, none, none, none, none, none, none, none, none, none, none, none, none, none, none, none, none, some (30, [.int .i64 0, .int .i64 0, .int .i64 0, .int .i64 0], [.int .i64 X, .int .i64 Y, .int .i64 D, .int .i64 R]), none, none] [none, none, none, none, none, none, none, none, none, none, none, none, none, none, none, none, none, none, none, none, some 19, none] 22 rfl (by kernel_rfl) ?tr ⟨[undef, undef, undef, undef, undef, undef, undef, undef, undef, undef, undef, undef, undef, undef, undef, undef, undef, undef, undef, undef, undef, undef], by simp only [putAll, Act.put, List.setIfInBounds_toArray, List.set_cons_succ, List.set_cons_zero, List.set_nil], rfl⟩ ?steps ?fin
    case tr =>
      rintro i v h
      rcases i with _ | _ | _ | _ | _ | _ | _ | _ | _ | _ | _ | _ | _ | _ | _ | _ | _ | _ | _ | _ | _ | _ | i
      all_goals first | trivial | (exfalso; rcases h with h | h <;> simp at h)
    case steps =>
      simp only [boxStepsIn, Nat.reduceAdd, Nat.zero_add, List.getD_cons_succ, List.getD_cons_zero]
      refine ⟨?_, ?_, ?_, ?_, ?_, ?_, ?_, ?_, ?_, ?_, ?_, ?_, ?_, ?_, ?_, ?_, ?_, ?_, ?_, ?_, ?_, ?_, trivial⟩
      · rintro vs W K hc hvl hw hK
        obtain ⟨x0, x1, x2, x3, x4, x5, x6, x7, x8, x9, x10, x11, x12, x13, x14, x15, x16, x17, x18, x19, x20, x21, rfl⟩ := len22 hvl
        have HK := Lib.hid hK
        have HC := Lib.hid hc
        have HW := Lib.hid hw
        clear hK hc hw hvl
        simp only [putAll, Act.put, List.setIfInBounds_toArray, List.set_cons_succ, List.set_cons_zero, List.set_nil]
        have rr := HF.out.1.below HC.out HF.out.1.lt
        have d0 := rr.cell 0
        simp only [List.getElem?_cons_zero] at d0
        clear rr
        clear HW
        gi_wp2_with fail
        have fin := HK.out (.slice (some ⟨g, o, none⟩) n c) W (Below.refl _ _) rfl
        simp only [putAll, Act.put, List.setIfInBounds_toArray, List.set_cons_succ, List.set_cons_zero, List.set_nil] at fin
        exact fin
      · rintro vs W K hc hvl hw hK
        obtain ⟨x0, x1, x2, x3, x4, x5, x6, x7, x8, x9, x10, x11, x12, x13, x14, x15, x16, x17, x18, x19, x20, x21, rfl⟩ := len22 hvl
        have HK := Lib.hid hK
        have HC := Lib.hid hc
        have HW := Lib.hid hw
        clear hK hc hw hvl
        simp only [putAll, Act.put, List.setIfInBounds_toArray, List.set_cons_succ, List.set_cons_zero, List.set_nil]
        clear HW
        gi_wp2_with fail
        have fin := HK.out (.pointer (some ⟨b, 0, none⟩)) W (Below.refl _ _) rfl
        simp only [putAll, Act.put, List.setIfInBounds_toArray, List.set_cons_succ, List.set_cons_zero, List.set_nil] at fin
        exact fin
      · rintro vs W K hc hvl hw hK
        obtain ⟨x0, x1, x2, x3, x4, x5, x6, x7, x8, x9, x10, x11, x12, x13, x14, x15, x16, x17, x18, x19, x20, x21, rfl⟩ := len22 hvl
        have HK := Lib.hid hK
        have HC := Lib.hid hc
        have HW := Lib.hid hw
        clear hK hc hw hvl
        obtain rfl : x1 = .pointer (some ⟨b, 0, none⟩) := box_get (HW.out ⟨1, .data⟩ (by simp) rfl) rfl
        simp only [putAll, Act.put, List.setIfInBounds_toArray, List.set_cons_succ, List.set_cons_zero, List.set_nil]
        have rr := HF.out.2.2.1.below HC.out HF.out.2.2.1.lt
        have d0 := rr.cell 0
        simp only [List.getElem?_cons_zero] at d0
        clear rr
        clear HW
        gi_wp2_with fail
        have fin := HK.out (.int .i64 (t0 : Int)) W (Below.refl _ _) rfl
        simp only [putAll, Act.put, List.setIfInBounds_toArray, List.set_cons_succ, List.set_cons_zero, List.set_nil] at fin
        exact fin
      · rintro vs W K hc hvl hw hK
        obtain ⟨x0, x1, x2, x3, x4, x5, x6, x7, x8, x9, x10, x11, x12, x13, x14, x15, x16, x17, x18, x19, x20, x21, rfl⟩ := len22 hvl
        have HK := Lib.hid hK
        have HC := Lib.hid hc
        have HW := Lib.hid hw
        clear hK hc hw hvl
        obtain rfl : x0 = .slice (some ⟨g, o, none⟩) n c := box_get (HW.out ⟨0, .data⟩ (by simp) rfl) rfl
        obtain rfl : x2 = .int .i64 (t0 : Int) := box_get (HW.out ⟨2, .data⟩ (by simp) rfl) rfl
        simp only [putAll, Act.put, List.setIfInBounds_toArray, List.set_cons_succ, List.set_cons_zero, List.set_nil]
        have hi1 : (t0 : Int) < (n : Int) := by have := HB3.out; omega
        clear HW
        gi_wp2_with fail
        have fin := HK.out (.pointer (some ⟨g, o + t0 * 2, none⟩)) W (Below.refl _ _) rfl
        simp only [putAll, Act.put, List.setIfInBounds_toArray, List.set_cons_succ, List.set_cons_zero, List.set_nil] at fin
        exact fin
      · rintro vs W K hc hvl hw hK
        obtain ⟨x0, x1, x2, x3, x4, x5, x6, x7, x8, x9, x10, x11, x12, x13, x14, x15, x16, x17, x18, x19, x20, x21, rfl⟩ := len22 hvl
        have HK := Lib.hid hK
        have HC := Lib.hid hc
        have HW := Lib.hid hw
        clear hK hc hw hvl
        obtain rfl : x3 = .pointer (some ⟨g, o + t0 * 2, none⟩) := box_get (HW.out ⟨3, .data⟩ (by simp) rfl) rfl
        simp only [putAll, Act.put, List.setIfInBounds_toArray, List.set_cons_succ, List.set_cons_zero, List.set_nil]
        have d0 := HX0.out.1 W HC.out
        have d1 := HX0.out.2 W HC.out
        clear HW
        gi_wp2_with fail
        have fin := HK.out (.agg #[.int .i64 a0, .int .i64 b0]) W (Below.refl _ _) rfl
        simp only [putAll, Act.put, List.setIfInBounds_toArray, List.set_cons_succ, List.set_cons_zero, List.set_nil] at fin
        exact fin
      · rintro vs W K hc hvl hw hK
        obtain ⟨x0, x1, x2, x3, x4, x5, x6, x7, x8, x9, x10, x11, x12, x13, x14, x15, x16, x17, x18, x19, x20, x21, rfl⟩ := len22 hvl
        have HK := Lib.hid hK
        have HC := Lib.hid hc
        have HW := Lib.hid hw
        clear hK hc hw hvl
        simp only [putAll, Act.put, List.setIfInBounds_toArray, List.set_cons_succ, List.set_cons_zero, List.set_nil]
        have rr := HF.out.1.below HC.out HF.out.1.lt
        have d0 := rr.cell 0
        simp only [List.getElem?_cons_zero] at d0
        clear rr
        clear HW
        gi_wp2_with fail
        have fin := HK.out (.slice (some ⟨g, o, none⟩) n c) W (Below.refl _ _) rfl
        simp only [putAll, Act.put, List.setIfInBounds_toArray, List.set_cons_succ, List.set_cons_zero, List.set_nil] at fin
        exact fin
      · rintro vs W K hc hvl hw hK
        obtain ⟨x0, x1, x2, x3, x4, x5, x6, x7, x8, x9, x10, x11, x12, x13, x14, x15, x16, x17, x18, x19, x20, x21, rfl⟩ := len22 hvl
        have HK := Lib.hid hK
        have HC := Lib.hid hc
        have HW := Lib.hid hw
        clear hK hc hw hvl
        simp only [putAll, Act.put, List.setIfInBounds_toArray, List.set_cons_succ, List.set_cons_zero, List.set_nil]
        clear HW
        gi_wp2_with fail
        have fin := HK.out (.pointer (some ⟨b, 1, none⟩)) W (Below.refl _ _) rfl
        simp only [putAll, Act.put, List.setIfInBounds_toArray, List.set_cons_succ, List.set_cons_zero, List.set_nil] at fin
        exact fin
      · rintro vs W K hc hvl hw hK
        obtain ⟨x0, x1, x2, x3, x4, x5, x6, x7, x8, x9, x10, x11, x12, x13, x14, x15, x16, x17, x18, x19, x20, x21, rfl⟩ := len22 hvl
        have HK := Lib.hid hK
        have HC := Lib.hid hc
        have HW := Lib.hid hw
        clear hK hc hw hvl
        obtain rfl : x6 = .pointer (some ⟨b, 1, none⟩) := box_get (HW.out ⟨6, .data⟩ (by simp) rfl) rfl
        simp only [putAll, Act.put, List.setIfInBounds_toArray, List.set_cons_succ, List.set_cons_zero, List.set_nil]
        have rr := HF.out.2.2.1.below HC.out HF.out.2.2.1.lt
        have d0 := rr.cell 1
        simp only [List.getElem?_cons_zero, List.getElem?_cons_succ] at d0
        clear rr
        clear HW
        gi_wp2_with fail
        have fin := HK.out (.int .i64 (t1 : Int)) W (Below.refl _ _) rfl
        simp only [putAll, Act.put, List.setIfInBounds_toArray, List.set_cons_succ, List.set_cons_zero, List.set_nil] at fin
        exact fin
      · rintro vs W K hc hvl hw hK
        obtain ⟨x0, x1, x2, x3, x4, x5, x6, x7, x8, x9, x10, x11, x12, x13, x14, x15, x16, x17, x18, x19, x20, x21, rfl⟩ := len22 hvl
        have HK := Lib.hid hK
        have HC := Lib.hid hc
        have HW := Lib.hid hw
        clear hK hc hw hvl
        obtain rfl : x5 = .slice (some ⟨g, o, none⟩) n c := box_get (HW.out ⟨5, .data⟩ (by simp) rfl) rfl
        obtain rfl : x7 = .int .i64 (t1 : Int) := box_get (HW.out ⟨7, .data⟩ (by simp) rfl) rfl
        simp only [putAll, Act.put, List.setIfInBounds_toArray, List.set_cons_succ, List.set_cons_zero, List.set_nil]
        have hi1 : (t1 : Int) < (n : Int) := by have := HB3.out; omega
        clear HW
        gi_wp2_with fail
        have fin := HK.out (.pointer (some ⟨g, o + t1 * 2, none⟩)) W (Below.refl _ _) rfl
        simp only [putAll, Act.put, List.setIfInBounds_toArray, List.set_cons_succ, List.set_cons_zero, List.set_nil] at fin
        exact fin
      · rintro vs W K hc hvl hw hK
        obtain ⟨x0, x1, x2, x3, x4, x5, x6, x7, x8, x9, x10, x11, x12, x13, x14, x15, x16, x17, x18, x19, x20, x21, rfl⟩ := len22 hvl
        have HK := Lib.hid hK
        have HC := Lib.hid hc
        have HW := Lib.hid hw
        clear hK hc hw hvl
        obtain rfl : x8 = .pointer (some ⟨g, o + t1 * 2, none⟩) := box_get (HW.out ⟨8, .data⟩ (by simp) rfl) rfl
        simp only [putAll, Act.put, List.setIfInBounds_toArray, List.set_cons_succ, List.set_cons_zero, List.set_nil]
        have d0 := HX1.out.1 W HC.out
        have d1 := HX1.out.2 W HC.out
        clear HW
        gi_wp2_with fail
        have fin := HK.out (.agg #[.int .i64 a1, .int .i64 b1]) W (Below.refl _ _) rfl
        simp only [putAll, Act.put, List.setIfInBounds_toArray, List.set_cons_succ, List.set_cons_zero, List.set_nil] at fin
        exact fin
      · rintro vs W K hc hvl hw hK
        obtain ⟨x0, x1, x2, x3, x4, x5, x6, x7, x8, x9, x10, x11, x12, x13, x14, x15, x16, x17, x18, x19, x20, x21, rfl⟩ := len22 hvl
        have HK := Lib.hid hK
        have HC := Lib.hid hc
        have HW := Lib.hid hw
        clear hK hc hw hvl
        simp only [putAll, Act.put, List.setIfInBounds_toArray, List.set_cons_succ, List.set_cons_zero, List.set_nil]
        have rr := HF.out.1.below HC.out HF.out.1.lt
        have d0 := rr.cell 0
        simp only [List.getElem?_cons_zero] at d0
        clear rr
        clear HW
        gi_wp2_with fail
        have fin := HK.out (.slice (some ⟨g, o, none⟩) n c) W (Below.refl _ _) rfl
        simp only [putAll, Act.put, List.setIfInBounds_toArray, List.set_cons_succ, List.set_cons_zero, List.set_nil] at fin
        exact fin
      · rintro vs W K hc hvl hw hK
        obtain ⟨x0, x1, x2, x3, x4, x5, x6, x7, x8, x9, x10, x11, x12, x13, x14, x15, x16, x17, x18, x19, x20, x21, rfl⟩ := len22 hvl
        have HK := Lib.hid hK
        have HC := Lib.hid hc
        have HW := Lib.hid hw
        clear hK hc hw hvl
        simp only [putAll, Act.put, List.setIfInBounds_toArray, List.set_cons_succ, List.set_cons_zero, List.set_nil]
        clear HW
        gi_wp2_with fail
        have fin := HK.out (.pointer (some ⟨b, 2, none⟩)) W (Below.refl _ _) rfl
        simp only [putAll, Act.put, List.setIfInBounds_toArray, List.set_cons_succ, List.set_cons_zero, List.set_nil] at fin
        exact fin
      · rintro vs W K hc hvl hw hK
        obtain ⟨x0, x1, x2, x3, x4, x5, x6, x7, x8, x9, x10, x11, x12, x13, x14, x15, x16, x17, x18, x19, x20, x21, rfl⟩ := len22 hvl
        have HK := Lib.hid hK
        have HC := Lib.hid hc
        have HW := Lib.hid hw
        clear hK hc hw hvl
        obtain rfl : x11 = .pointer (some ⟨b, 2, none⟩) := box_get (HW.out ⟨11, .data⟩ (by simp) rfl) rfl
        simp only [putAll, Act.put, List.setIfInBounds_toArray, List.set_cons_succ, List.set_cons_zero, List.set_nil]
        have rr := HF.out.2.2.1.below HC.out HF.out.2.2.1.lt
        have d0 := rr.cell 2
        simp only [List.getElem?_cons_zero, List.getElem?_cons_succ] at d0
        clear rr
        clear HW
        gi_wp2_with fail
        have fin := HK.out (.int .i64 (t2 : Int)) W (Below.refl _ _) rfl
        simp only [putAll, Act.put, List.setIfInBounds_toArray, List.set_cons_succ, List.set_cons_zero, List.set_nil] at fin
        exact fin
      · rintro vs W K hc hvl hw hK
        obtain ⟨x0, x1, x2, x3, x4, x5, x6, x7, x8, x9, x10, x11, x12, x13, x14, x15, x16, x17, x18, x19, x20, x21, rfl⟩ := len22 hvl
        have HK := Lib.hid hK
        have HC := Lib.hid hc
        have HW := Lib.hid hw
        clear hK hc hw hvl
        obtain rfl : x10 = .slice (some ⟨g, o, none⟩) n c := box_get (HW.out ⟨10, .data⟩ (by simp) rfl) rfl
        obtain rfl : x12 = .int .i64 (t2 : Int) := box_get (HW.out ⟨12, .data⟩ (by simp) rfl) rfl
        simp only [putAll, Act.put, List.setIfInBounds_toArray, List.set_cons_succ, List.set_cons_zero, List.set_nil]
        have hi1 : (t2 : Int) < (n : Int) := by have := HB3.out; omega
        clear HW
        gi_wp2_with fail
        have fin := HK.out (.pointer (some ⟨g, o + t2 * 2, none⟩)) W (Below.refl _ _) rfl
        simp only [putAll, Act.put, List.setIfInBounds_toArray, List.set_cons_succ, List.set_cons_zero, List.set_nil] at fin
        exact fin
      · rintro vs W K hc hvl hw hK
        obtain ⟨x0, x1, x2, x3, x4, x5, x6, x7, x8, x9, x10, x11, x12, x13, x14, x15, x16, x17, x18, x19, x20, x21, rfl⟩ := len22 hvl
        have HK := Lib.hid hK
        have HC := Lib.hid hc
        have HW := Lib.hid hw
        clear hK hc hw hvl
        obtain rfl : x13 = .pointer (some ⟨g, o + t2 * 2, none⟩) := box_get (HW.out ⟨13, .data⟩ (by simp) rfl) rfl
        simp only [putAll, Act.put, List.setIfInBounds_toArray, List.set_cons_succ, List.set_cons_zero, List.set_nil]
        have d0 := HX2.out.1 W HC.out
        have d1 := HX2.out.2 W HC.out
        clear HW
        gi_wp2_with fail
        have fin := HK.out (.agg #[.int .i64 a2, .int .i64 b2]) W (Below.refl _ _) rfl
        simp only [putAll, Act.put, List.setIfInBounds_toArray, List.set_cons_succ, List.set_cons_zero, List.set_nil] at fin
        exact fin
      · rintro vs W K hc hvl hw hK
        obtain ⟨x0, x1, x2, x3, x4, x5, x6, x7, x8, x9, x10, x11, x12, x13, x14, x15, x16, x17, x18, x19, x20, x21, rfl⟩ := len22 hvl
        have HK := Lib.hid hK
        have HC := Lib.hid hc
        have HW := Lib.hid hw
        clear hK hc hw hvl
        obtain rfl : x4 = .agg #[.int .i64 a0, .int .i64 b0] := box_get (HW.out ⟨4, .data⟩ (by simp) rfl) rfl
        obtain rfl : x9 = .agg #[.int .i64 a1, .int .i64 b1] := box_get (HW.out ⟨9, .data⟩ (by simp) rfl) rfl
        obtain rfl : x14 = .agg #[.int .i64 a2, .int .i64 b2] := box_get (HW.out ⟨14, .data⟩ (by simp) rfl) rfl
        simp only [putAll, Act.put, List.setIfInBounds_toArray, List.set_cons_succ, List.set_cons_zero, List.set_nil]
        clear HW
        gi_wp2_with fail
        refine ⟨trivial, (CallsIn.inRound l2 (callsIn_wide.2 (HTH.out W))).mono ?_⟩
        rintro e W' ⟨rfl, hb'⟩
        have HB' := Lib.hid hb'
        clear hb'
        gi_wp2_with fail
        have fin := HK.out (.tuple #[.agg #[.int .i64 X, .int .i64 Y, .int .i64 D, .int .i64 R], .bool E]) W' HB'.out rfl
        simp only [putAll, Act.put, List.setIfInBounds_toArray, List.set_cons_succ, List.set_cons_zero, List.set_nil] at fin
        exact fin
      · rintro vs W K hc hvl hw hK
        obtain ⟨x0, x1, x2, x3, x4, x5, x6, x7, x8, x9, x10, x11, x12, x13, x14, x15, x16, x17, x18, x19, x20, x21, rfl⟩ := len22 hvl
        have HK := Lib.hid hK
        have HC := Lib.hid hc
        have HW := Lib.hid hw
        clear hK hc hw hvl
        obtain rfl : x15 = .tuple #[.agg #[.int .i64 X, .int .i64 Y, .int .i64 D, .int .i64 R], .bool E] := box_get (HW.out ⟨15, .data⟩ (by simp) rfl) rfl
        simp only [putAll, Act.put, List.setIfInBounds_toArray, List.set_cons_succ, List.set_cons_zero, List.set_nil]
        clear HW
        gi_wp2_with fail
        have fin := HK.out (.tuple #[.agg #[.int .i64 X, .int .i64 Y, .int .i64 D, .int .i64 R], .bool E]) W (Below.refl _ _) rfl
        simp only [putAll, Act.put, List.setIfInBounds_toArray, List.set_cons_succ, List.set_cons_zero, List.set_nil] at fin
        exact fin
      · rintro vs W K hc hvl hw hK
        obtain ⟨x0, x1, x2, x3, x4, x5, x6, x7, x8, x9, x10, x11, x12, x13, x14, x15, x16, x17, x18, x19, x20, x21, rfl⟩ := len22 hvl
        have HK := Lib.hid hK
        have HC := Lib.hid hc
        have HW := Lib.hid hw
        clear hK hc hw hvl
        obtain rfl : x16 = .tuple #[.agg #[.int .i64 X, .int .i64 Y, .int .i64 D, .int .i64 R], .bool E] := box_get (HW.out ⟨16, .data⟩ (by simp) rfl) rfl
        simp only [putAll, Act.put, List.setIfInBounds_toArray, List.set_cons_succ, List.set_cons_zero, List.set_nil]
        clear HW
        gi_wp2_with fail
        have fin := HK.out (.agg #[.int .i64 X, .int .i64 Y, .int .i64 D, .int .i64 R]) W (Below.refl _ _) rfl
        simp only [putAll, Act.put, List.setIfInBounds_toArray, List.set_cons_succ, List.set_cons_zero, List.set_nil] at fin
        exact fin
      · rintro vs W K hc hvl hw hK
        obtain ⟨x0, x1, x2, x3, x4, x5, x6, x7, x8, x9, x10, x11, x12, x13, x14, x15, x16, x17, x18, x19, x20, x21, rfl⟩ := len22 hvl
        have HK := Lib.hid hK
        have HC := Lib.hid hc
        have HW := Lib.hid hw
        clear hK hc hw hvl
        obtain rfl : x16 = .tuple #[.agg #[.int .i64 X, .int .i64 Y, .int .i64 D, .int .i64 R], .bool E] := box_get (HW.out ⟨16, .data⟩ (by simp) rfl) rfl
        simp only [putAll, Act.put, List.setIfInBounds_toArray, List.set_cons_succ, List.set_cons_zero, List.set_nil]
        clear HW
        gi_wp2_with fail
        have fin := HK.out (.bool E) W (Below.refl _ _) rfl
        simp only [putAll, Act.put, List.setIfInBounds_toArray, List.set_cons_succ, List.set_cons_zero, List.set_nil] at fin
        exact fin
      · rintro vs W K hc hvl hw hK
        obtain ⟨x0, x1, x2, x3, x4, x5, x6, x7, x8, x9, x10, x11, x12, x13, x14, x15, x16, x17, x18, x19, x20, x21, rfl⟩ := len22 hvl
        have HK := Lib.hid hK
        have HC := Lib.hid hc
        have HW := Lib.hid hw
        clear hK hc hw hvl
        simp only [putAll, Act.put, List.setIfInBounds_toArray, List.set_cons_succ, List.set_cons_zero, List.set_nil]
        clear HW
        gi_wp2_with fail
        have fin := HK.out
        simp only [putAll, Act.put, List.setIfInBounds_toArray, List.set_cons_succ, List.set_cons_zero, List.set_nil] at fin
        exact fin
      · rintro vs W K hc hvl hw b E z f hia hva hb0 hr hK
        cases hia
        obtain ⟨x0, x1, x2, x3, x4, x5, x6, x7, x8, x9, x10, x11, x12, x13, x14, x15, x16, x17, x18, x19, x20, x21, rfl⟩ := len22 hvl
        have HK := Lib.hid hK
        have HC := Lib.hid hc
        have HW := Lib.hid hw
        clear hK hc hw hvl
        obtain rfl : x17 = .agg #[.int .i64 X, .int .i64 Y, .int .i64 D, .int .i64 R] := box_get (HW.out ⟨17, .data⟩ (by simp) rfl) rfl
        obtain rfl : x19 = .pointer (some ⟨b, 0, none⟩) := Option.some.inj hva
        simp only [putAll, Act.put, List.setIfInBounds_toArray, List.set_cons_succ, List.set_cons_zero, List.set_nil]
        have kf0 := frozen_of_row W b 0 _ _ hr
        have kc0 : W.cell? ⟨b, 0, none⟩ = some (.int .i64 0) := hr.cell 0
        have kf1 := frozen_of_row W b 1 _ _ hr
        have kc1 : W.cell? ⟨b, 1, none⟩ = some (.int .i64 0) := hr.cell 1
        have kf2 := frozen_of_row W b 2 _ _ hr
        have kc2 : W.cell? ⟨b, 2, none⟩ = some (.int .i64 0) := hr.cell 2
        have kf3 := frozen_of_row W b 3 _ _ hr
        have kc3 : W.cell? ⟨b, 3, none⟩ = some (.int .i64 0) := hr.cell 3
        have HRW := Lib.hid hr
        clear HW hr hva
        gi_wp2_with fail
        have fin := HK.out _ (show Row _ b 30 [.int .i64 X, .int .i64 Y, .int .i64 D, .int .i64 R] from by simpa using (show Row _ b 30 _ from ((((HRW.out.set 0 (.int .i64 X)).set 1 (.int .i64 Y)).set 2 (.int .i64 D)).set 3 (.int .i64 R)))) (grown_put (grown_put (grown_put (grown_put (grown_self W _)))))
        simp only [putAll, Act.put, List.setIfInBounds_toArray, List.set_cons_succ, List.set_cons_zero, List.set_nil] at fin
        exact fin
      · rintro vs W K hc hvl hw hK
        obtain ⟨x0, x1, x2, x3, x4, x5, x6, x7, x8, x9, x10, x11, x12, x13, x14, x15, x16, x17, x18, x19, x20, x21, rfl⟩ := len22 hvl
        have HK := Lib.hid hK
        have HC := Lib.hid hc
        have HW := Lib.hid hw
        clear hK hc hw hvl
        obtain rfl : x18 = .bool E := box_get (HW.out ⟨18, .data⟩ (by simp) rfl) rfl
        simp only [putAll, Act.put, List.setIfInBounds_toArray, List.set_cons_succ, List.set_cons_zero, List.set_nil]
        clear HW
        gi_wp2_with fail
        have fin := HK.out (.bool E) W (Below.refl _ _) rfl
        simp only [putAll, Act.put, List.setIfInBounds_toArray, List.set_cons_succ, List.set_cons_zero, List.set_nil] at fin
        exact fin
    case fin =>
      rintro vs W hJ
      obtain ⟨x0, x1, x2, x3, x4, x5, x6, x7, x8, x9, x10, x11, x12, x13, x14, x15, x16, x17, x18, x19, x20, x21, rfl⟩ := len22 hJ.ln
      obtain rfl : x0 = .slice (some ⟨g, o, none⟩) n c := box_get (hJ.val 0 rfl) rfl
      obtain rfl : x1 = .pointer (some ⟨b, 0, none⟩) := box_get (hJ.val 1 rfl) rfl
      obtain rfl : x2 = .int .i64 (t0 : Int) := box_get (hJ.val 2 rfl) rfl
      obtain rfl : x3 = .pointer (some ⟨g, o + t0 * 2, none⟩) := box_get (hJ.val 3 rfl) rfl
      obtain rfl : x4 = .agg #[.int .i64 a0, .int .i64 b0] := box_get (hJ.val 4 rfl) rfl
      obtain rfl : x5 = .slice (some ⟨g, o, none⟩) n c := box_get (hJ.val 5 rfl) rfl
      obtain rfl : x6 = .pointer (some ⟨b, 1, none⟩) := box_get (hJ.val 6 rfl) rfl
      obtain rfl : x7 = .int .i64 (t1 : Int) := box_get (hJ.val 7 rfl) rfl
      obtain rfl : x8 = .pointer (some ⟨g, o + t1 * 2, none⟩) := box_get (hJ.val 8 rfl) rfl
      obtain rfl : x9 = .agg #[.int .i64 a1, .int .i64 b1] := box_get (hJ.val 9 rfl) rfl
      obtain rfl : x10 = .slice (some ⟨g, o, none⟩) n c := box_get (hJ.val 10 rfl) rfl
      obtain rfl : x11 = .pointer (some ⟨b, 2, none⟩) := box_get (hJ.val 11 rfl) rfl
      obtain rfl : x12 = .int .i64 (t2 : Int) := box_get (hJ.val 12 rfl) rfl
      obtain rfl : x13 = .pointer (some ⟨g, o + t2 * 2, none⟩) := box_get (hJ.val 13 rfl) rfl
      obtain rfl : x14 = .agg #[.int .i64 a2, .int .i64 b2] := box_get (hJ.val 14 rfl) rfl
      obtain rfl : x15 = .tuple #[.agg #[.int .i64 X, .int .i64 Y, .int .i64 D, .int .i64 R], .bool E] := box_get (hJ.val 15 rfl) rfl
      obtain rfl : x16 = .tuple #[.agg #[.int .i64 X, .int .i64 Y, .int .i64 D, .int .i64 R], .bool E] := box_get (hJ.val 16 rfl) rfl
      obtain rfl : x17 = .agg #[.int .i64 X, .int .i64 Y, .int .i64 D, .int .i64 R] := box_get (hJ.val 17 rfl) rfl
      obtain rfl : x18 = .bool E := box_get (hJ.val 18 rfl) rfl
      obtain rfl : x21 = .bool E := box_get (hJ.val 21 rfl) rfl
      obtain ⟨b19, e19, hb19, hr19⟩ := hJ.box 19 _ _ _ rfl rfl
      obtain rfl : x19 = .pointer (some ⟨b19, 0, none⟩) := Option.some.inj e19
      replace hr19 : Row W b19 30 [.int .i64 X, .int .i64 Y, .int .i64 D, .int .i64 R] := hr19
      have HR19 := Lib.hid hr19
      clear e19 hr19
      have HC := Lib.hid hJ.bl
      clear hJ
      simp only [putAll, Act.put, List.setIfInBounds_toArray, List.set_cons_succ, List.set_cons_zero, List.set_nil]
      clear HTH
      have RB1 := Lib.hid (HF.out.1.below HC.out HF.out.1.lt)
      have LL := Lib.hid (HF.out.2.1.below HC.out)
      have RT3 := Lib.hid (HF.out.2.2.1.below HC.out HF.out.2.2.1.lt)
      have rb1 := RB1.out.cell 0
      simp only [List.getElem?_cons_zero] at rb1
      cases E with
      | false =>
        gi_wp2_with fail
        refine ⟨trivial, ?_⟩
        gi_wp2_with fail
        refine ⟨kf_below _ HC.out, KeepsI.of_below HC.out, RB1.out, lv', ?_⟩
        rw [List.filter_append, List.filter_cons, List.filter_nil, HCE.out.2 (by trivial), if_neg (by simp), List.append_nil]
        exact LL.out
      | true =>
        obtain ⟨hcb, hemp⟩ := HCE.out.1 (by trivial)
        have hcf := containsFunc_any ps (.slice (some ⟨g, o, none⟩) n c) 62 #[.pointer (some ⟨b19, 0, none⟩)] (fun p => decide (whF ⟨X, Y, D, R⟩ p < 0)) W (HSL.out.grow (Below.andThen HF.out.2.1.bw HC.out (Nat.le_refl _))) (by rw [HN.out]; omega) (enters_of Try.func62 (by kernel_rfl) rfl) (fun W' x y hbb hm => inside_any ⟨X, Y, D, R⟩ hcb x y (HPS.out _ hm).1 (HPS.out _ hm).2 b19 W' (HR19.out.below hbb HR19.out.lt))
        have HEMP := Lib.hid hemp
        have HCF := Lib.hid hcf
        clear hcb hemp hcf
        generalize ps.any (fun p => decide (whF ⟨X, Y, D, R⟩ p < 0)) = q at *
        gi_wp2_with fail
        refine ⟨trivial, (CallsIn.inRound l2 (callsIn_wide.2 HCF.out)).mono ?_⟩
        rintro e W3 ⟨rfl, hb3⟩
        have HB9 := Lib.hid (Below.andThen HC.out hb3 (Nat.le_refl _))
        have LL3 := Lib.hid (LL.out.below hb3)
        have RB3 := Lib.hid (RB1.out.below hb3 RB1.out.lt)
        have RT4 := Lib.hid (RT3.out.below hb3 RT3.out.lt)
        clear rb1 hb3 HCF
        cases q with
        | true =>
          gi_wp2_with fail
          refine ⟨kf_below _ HB9.out, KeepsI.of_below HB9.out, RB3.out, lv', ?_⟩
          rw [List.filter_append, List.filter_cons, List.filter_nil, HEMP.out, if_neg (by simp), List.append_nil]
          exact LL3.out
        | false =>
          have hlen : (pre.filter (empB ps)).length + 1 ≤ 1000000 := by
            have h2 := List.length_filter_le (empB ps) pre
            have h3 := HPRE.out.length_le
            have h4 := trL_len n hl
            rw [List.length_append, List.length_singleton] at h3
            omega
          obtain ⟨ba, rn⟩ := box_start W3 71 [.int .i64 (t0 : Int), .int .i64 (t1 : Int), .int .i64 (t2 : Int)]
          obtain ⟨a3, n3, c3, W4, hap, r2, hL2, hX⟩ := (LL3.out.below ba).add (c := (t0, t1, t2)) rn hlen
          have l0 := LL3.out.row.cell 0
          have k0 := RT4.out.cell 0
          have k1 := RT4.out.cell 1
          have k2 := RT4.out.cell 2
          have d0 := r2.cell 0
          simp only [List.getElem?_cons_zero, List.getElem?_cons_succ] at l0 k0 k1 k2 d0
          have d1 : W4.frozen? ⟨L, 0, none⟩ = false := by simp [World.frozen?, show W4.heap[L]? = _ from r2]
          have HAP := Lib.hid hap
          have hXX := KeepsY.trans (KeepsY.of_below HB9.out) (KeepsY.trans (KeepsY.of_below ba) hX)
          have HX := Lib.hid hXX
          have HLL := Lib.hid hL2
          have RB2 := Lib.hid (hXX.row rfl HF.out.1)
          clear ba rn hap r2 hL2 hX hXX hlen
          gi_wp2_with (gi_at_builtin; refine appendC_run rfl _ _ 39 rfl _ _ _ _ rfl rfl HAP.out ?_)
          refine ⟨HX.out.from_ _, HX.out.its _, RB2.out, .slice a3 n3 c3, ?_⟩
          rw [List.filter_append, List.filter_cons, List.filter_nil, HEMP.out, if_pos (by simp)]
          exact HLL.out
end Go.Proofs.Ytlemipnplgbckaa
