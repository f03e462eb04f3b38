import Derived.Test.YtlemipnplgbckaaKA
import Derived.Laws.AppendOwn
import Derived.ChangeKeysEq
import Derived.Maps.RangeWalk
import Derived.Maps.OwnIn
import Derived.Maps.AppendAt
import Derived.RangeFuncNested
import Derived.RangeFuncBound
import Derived.RangeFuncCalls
import Derived.RangeFuncLeaves
import Derived.Shelf.Abstract
import Derived.Shelf.RegionOpen
import Derived.WalkKit
import Derived.WalkMore
import Derived.OwnWalkIn
import Derived.TacticsInMore
import Derived.LoopNIn
import Derived.LoopIn
import Derived.WalkSpells
import Derived.WalkLawsBesides
import Derived.BigQuiet
import Derived.Deep.QuietTactic
import Derived.Lib.Hide
import Derived.Deep.RegionHeld3
import Derived.StillTailTactics
import Derived.Deep.LoopGhost
import Derived.Maps.OwnSet
import Derived.Lib.IndexAny
import Derived.Sort.QuietThIn
import Derived.Sort.QuietTacIn
import Derived.Sort.BigQuietIn
import Derived.Laws.OwnMore
import Derived.DeepKeys4
import Derived.Maps.Views
import Derived.Maps.OwnOps
import Derived.Deep.DeepCutAuto
import Derived.Shelf.Bits.Mul64
import Derived.Shelf.LaysM
namespace Go.Proofs.Ytlemipnplgbckaa
open Go.RowKit Go.Shelf
attribute [local go_sem] Oper.semAt_some
structure PrI (w : World) (bf : Nat) (v : Value) (nr fa : Nat × Nat) (V : World) : Prop where
  p : Row V w.heap.size 22 [v]
  nr : Row V (w.heap.size + 1) 28 [.int .i64 (nr.1 : Int), .int .i64 (nr.2 : Int)]
  fa : Row V (w.heap.size + 1 + 1) 28 [.int .i64 (fa.1 : Int), .int .i64 (fa.2 : Int)]
  fn : Row V bf 91 [.func (.func 68) #[] #[.pointer (some ⟨w.heap.size, 0, none⟩)]]
  bl : Below w.heap.size w V
theorem PrI.grow {w : World} {bf : Nat} {v : Value} {nr fa : Nat × Nat} {V W : World} (h : PrI w bf v nr fa V) (hb : Below V.heap.size V W) : PrI w bf v nr fa W :=
  ⟨h.p.below hb h.p.lt, h.nr.below hb h.nr.lt, h.fa.below hb h.fa.lt, h.fn.below hb h.fn.lt, Below.andThen h.bl hb (Nat.le_refl _)⟩
theorem PrI.setNr {w : World} {bf : Nat} {v : Value} {nr fa : Nat × Nat} {V : World} (hf : w.heap.size + 1 + 1 < bf) (h : PrI w bf v nr fa V) (t : Nat × Nat) : PrI w bf v t fa ((V.setCell ⟨w.heap.size + 1, 0, none⟩ (.int .i64 (t.1 : Int))).setCell ⟨w.heap.size + 1, 1, none⟩ (.int .i64 (t.2 : Int))) := by
  have e1 : w.heap.size ≠ w.heap.size + 1 := by omega
  have e2 : w.heap.size + 1 + 1 ≠ w.heap.size + 1 := by omega
  have e3 : bf ≠ w.heap.size + 1 := by omega
  have q := (h.nr.set 0 (.int .i64 (t.1 : Int))).set 1 (.int .i64 (t.2 : Int))
  simp only [List.set_cons_zero, List.set_cons_succ] at q
  exact ⟨(h.p.other 0 _ e1).other 1 _ e1, q, (h.fa.other 0 _ e2).other 1 _ e2, (h.fn.other 0 _ e3).other 1 _ e3, (h.bl.setCell (p := ⟨w.heap.size + 1, 0, none⟩) (Nat.le_succ _) _).setCell (p := ⟨w.heap.size + 1, 1, none⟩) (Nat.le_succ _) _⟩
theorem PrI.setFa {w : World} {bf : Nat} {v : Value} {nr fa : Nat × Nat} {V : World} (hf : w.heap.size + 1 + 1 < bf) (h : PrI w bf v nr fa V) (t : Nat × Nat) : PrI w bf v nr t ((V.setCell ⟨w.heap.size + 1 + 1, 0, none⟩ (.int .i64 (t.1 : Int))).setCell ⟨w.heap.size + 1 + 1, 1, none⟩ (.int .i64 (t.2 : Int))) := by
  have e1 : w.heap.size ≠ w.heap.size + 1 + 1 := by omega
  have e2 : w.heap.size + 1 ≠ w.heap.size + 1 + 1 := by omega
  have e3 : bf ≠ w.heap.size + 1 + 1 := by omega
  have q := (h.fa.set 0 (.int .i64 (t.1 : Int))).set 1 (.int .i64 (t.2 : Int))
  simp only [List.set_cons_zero, List.set_cons_succ] at q
  exact ⟨(h.p.other 0 _ e1).other 1 _ e1, (h.nr.other 0 _ e2).other 1 _ e2, q, (h.fn.other 0 _ e3).other 1 _ e3, (h.bl.setCell (p := ⟨w.heap.size + 1 + 1, 0, none⟩) (by dsimp only; omega) _).setCell (p := ⟨w.heap.size + 1 + 1, 1, none⟩) (by dsimp only; omega) _⟩
theorem len2 {vs : List Value} (h : vs.length = 2) : ∃ x0 x1, vs = [x0, x1] := by
  obtain ⟨x0, r0, rfl, h0⟩ := len_cons h
  obtain ⟨x1, r1, rfl, h1⟩ := len_cons h0
  exact ⟨x0, x1, by rw [List.eq_nil_of_length_eq_zero h1]⟩
theorem setCell_same {W : World} {g : Nat} {E : TypeId} {vs : List Value} (h : Row W g E vs) (i : Nat) (v : Value) (hi : vs[i]? = some v) : W.setCell ⟨g, i, none⟩ v = W := by
  have hs : vs.set i v = vs := by
    apply List.ext_getElem?
    intro k
    by_cases e : i = k
    · subst e
      rw [List.getElem?_set_self (List.getElem?_eq_some_iff.1 hi).1, hi]
    · rw [List.getElem?_set_ne e]
  have h2 := h.set i v
  rw [hs] at h2
  have hh : (W.setCell ⟨g, i, none⟩ v).heap = W.heap := by
    apply Array.ext_getElem?
    intro k
    by_cases e : k = g
    · subst e; exact h2.trans h.symm
    · exact Below.heap_setCell W ⟨g, i, none⟩ v k e
  show ({ W with heap := (W.setCell ⟨g, i, none⟩ v).heap } : World) = W
  rw [hh]
theorem kf_set (D : Nat) (W : World) (b i : Nat) (v : Value) (hb : b < D) : KeepsFrom D W (W.setCell ⟨b, i, none⟩ v) :=
  ⟨(grown_set W ⟨b, i, none⟩ v).size, fun k _ hk h _ => by
    have hl := (Array.getElem?_eq_some_iff.1 h).1
    exact ((grown_set W ⟨b, i, none⟩ v).block k hl (fun e => by have := Option.some.inj e; dsimp only at this; omega)).trans h⟩
theorem ki_set (B : Nat) (W : World) (b i : Nat) (v : Value) (hb : b < B) : KeepsI B W (W.setCell ⟨b, i, none⟩ v) := fun k _ hk h _ => by
    have hl := (Array.getElem?_eq_some_iff.1 h).1
    exact ((grown_set W ⟨b, i, none⟩ v).block k hl (fun e => by have := Option.some.inj e; dsimp only at this; omega)).trans h
theorem kf_trans {D : Nat} {X Y Z : World} (h : KeepsFrom D X Y) (k : KeepsFrom D Y Z) : KeepsFrom D X Z := ⟨Nat.le_trans h.size k.size, fun i o hi ho hc => k.same i o hi (h.same i o hi ho hc) hc⟩
theorem nr_lt {ps : List Pt} {n : Nat} {pre : List (Nat × Nat)} (h2 : 2 ≤ n) (h : ∀ t ∈ pre, t ∈ prL n) : (nrK ps pre).1 < n ∧ (nrK ps pre).2 < n := by
  rcases nrK_mem ps pre (0, 1) with e | e
  · unfold nrK; rw [e]; exact ⟨by omega, by omega⟩
  · have := mem_prL.1 (h _ e)
    unfold nrK
    omega
theorem fa_lt {ps : List Pt} {n : Nat} {pre : List (Nat × Nat)} (h2 : 2 ≤ n) (h : ∀ t ∈ pre, t ∈ prL n) : (faK ps pre).1 < n ∧ (faK ps pre).2 < n := by
  rcases faK_mem ps pre (0, 1) with e | e
  · unfold faK; rw [e]; exact ⟨by omega, by omega⟩
  · have := mem_prL.1 (h _ e)
    unfold faK
    omega
set_option maxRecDepth 100000 in
set_option maxHeartbeats 4000000 in
theorem Pairs_ok (ps : List Pt) (v : Value) (w : World) (hv : SlP w v ps) (he : chkP ps = true) (h2 : 2 ≤ ps.length) :
    Calls Try.prog 26 #[v] w fun e w' => e = .returned (.tuple #[encP (nrK ps (prL ps.length)), encP (faK ps (prL ps.length)), .int .i64 0]) ∧ Below w.heap.size w w' := by
  obtain ⟨⟨_, hl⟩, hps, _⟩ := chkP_iff.1 he
  obtain ⟨V, hV, r1, r2, r3, bV⟩ := pr_start w v
  have HC := Lib.hid (Check_any ps v V (hv.grow bV) (by omega))
  rw [errP_ok he] at HC
  have HPS := Lib.hid hps
  have HSL := Lib.hid hv
  obtain ⟨a, c, rfl, _⟩ := hv
  obtain ⟨n, hn⟩ : ∃ n, ps.length = n := ⟨_, rfl⟩
  have HN := Lib.hid hn
  rw [hn] at h2 hl HC HSL r1 hV ⊢
  have hd2 : decide ((n : Int) < 2) = false := decide_eq_false (by omega)
  have hd2n : decide (n < 2) = false := decide_eq_false (by omega)
  have BV := Lib.hid bV
  have R1 := Lib.hid r1
  have R2 := Lib.hid r2
  have R3 := Lib.hid r3
  have k0 := r1.cell 0
  simp only [List.getElem?_cons_zero] at k0
  clear r1 r2 r3 bV he hps hn
  refine callsIn_wide.1 (callsIn_of_wp_marks (F := Fence.wide) (n := 4) Try.func26 rfl trivial ?_ rfl)
  simp only [Try.ntmps26, List.size_toArray, List.length_cons, List.length_nil, Nat.reduceAdd, Nat.reduceSub, Array.replicate_succ, Array.replicate_zero, List.push_toArray, List.append_toArray, List.nil_append, List.cons_append]
  gi_wp2_with fail
  rw [← hV]
  refine ⟨trivial, (callsIn_wide.2 HC.out).mono ?_⟩
  rintro e w1 ⟨rfl, hb⟩
  have B1 := Lib.hid (Below.andThen BV.out hb (Nat.le_refl _))
  have R11 := Lib.hid (R1.out.below hb R1.out.lt)
  have R21 := Lib.hid (R2.out.below hb R2.out.lt)
  have R31 := Lib.hid (R3.out.below hb R3.out.lt)
  clear hb HC k0 hV BV R1 R2 R3
  -- the function's box is laid, and both results are set
  obtain ⟨_, rn⟩ := box_start w1 91 [Value.nilFunc]
  have n0 := rn.cell 0
  have n1 := frozen_of_row _ w1.heap.size 0 _ _ rn
  obtain ⟨bf, rf⟩ := box_start w1 91 [.func (.func 68) #[] #[.pointer (some ⟨w.heap.size, 0, none⟩)]]
  have k0 := R11.out.cell 0
  have k0b := (R11.out.below bf R11.out.lt).cell 0
  have q2 := R21.out.below bf R21.out.lt
  have q3 := R31.out.below bf R31.out.lt
  have s0 := q2.cell 0
  have s1 := q2.cell 1
  have t0 := q3.cell 0
  have t1 := q3.cell 1
  have f0 := frozen_of_row _ (w.heap.size + 1) 0 _ _ q2
  have f1 := frozen_of_row _ (w.heap.size + 1) 1 _ _ q2
  have g0 := frozen_of_row _ (w.heap.size + 1 + 1) 0 _ _ q3
  have g1 := frozen_of_row _ (w.heap.size + 1 + 1) 1 _ _ q3
  simp only [List.getElem?_cons_zero, List.getElem?_cons_succ] at s0 s1 t0 t1 k0 k0b n0
  have RF := Lib.hid rf
  have BF := Lib.hid bf
  have hst := fun (W : World) (a : Addr) => run_store Try.prog W a (.func (.func 68) #[] #[.pointer (some ⟨w.heap.size, 0, none⟩)]) .plain rfl
  clear q2 q3 bf rf rn
  gi_wp2_with fail
  have e01 : w.heap.size + 1 ≠ w.heap.size + 1 + 1 := by omega
  have e02 : w.heap.size ≠ w.heap.size + 1 := by omega
  have e03 : w.heap.size ≠ w.heap.size + 1 + 1 := by omega
  have l1 := R31.out.lt
  have e04 : w1.heap.size ≠ w.heap.size + 1 := by omega
  have e05 : w1.heap.size ≠ w.heap.size + 1 + 1 := by omega
  have p1 := ((((R11.out.below BF.out R11.out.lt).other 0 (.int .i64 0) e02).other 1 (.int .i64 1) e02).other 0 (.int .i64 0) e03).other 1 (.int .i64 1) e03
  have p2 := ((((R21.out.below BF.out R21.out.lt).set 0 (.int .i64 0)).set 1 (.int .i64 1)).other 0 (.int .i64 0) e01).other 1 (.int .i64 1) e01
  have p3 := ((((R31.out.below BF.out R31.out.lt).other 0 (.int .i64 0) e01.symm).other 1 (.int .i64 1) e01.symm).set 0 (.int .i64 0)).set 1 (.int .i64 1)
  have p4 := (((RF.out.other 0 (.int .i64 0) e04).other 1 (.int .i64 1) e04).other 0 (.int .i64 0) e05).other 1 (.int .i64 1) e05
  simp only [List.set_cons_zero, List.set_cons_succ] at p2 p3
  have pb := ((((Below.andThen B1.out BF.out (Nat.le_refl _)).setCell (p := ⟨w.heap.size + 1, 0, none⟩) (by dsimp only; omega) (.int .i64 0)).setCell (p := ⟨w.heap.size + 1, 1, none⟩) (by dsimp only; omega) (.int .i64 1)).setCell (p := ⟨w.heap.size + 1 + 1, 0, none⟩) (by dsimp only; omega) (.int .i64 0)).setCell (p := ⟨w.heap.size + 1 + 1, 1, none⟩) (by dsimp only; omega) (.int .i64 1)
  obtain ⟨wr, hwr⟩ : ∃ W, ((((w1.alloc (.cells [.func (.func 68) #[] #[.pointer (some ⟨w.heap.size, 0, none⟩)]].toArray 91)).setCell ⟨w.heap.size + 1, 0, none⟩ (.int .i64 0)).setCell ⟨w.heap.size + 1, 1, none⟩ (.int .i64 1)).setCell ⟨w.heap.size + 1 + 1, 0, none⟩ (.int .i64 0)).setCell ⟨w.heap.size + 1 + 1, 1, none⟩ (.int .i64 1) = W := ⟨_, rfl⟩
  rw [hwr] at p1 p2 p3 p4 pb ⊢
  have HLT := Lib.hid (And.intro l1 (show w1.heap.size < wr.heap.size from p4.lt))
  have P1 := Lib.hid p1
  have P2 := Lib.hid p2
  have P3 := Lib.hid p3
  have P4 := Lib.hid p4
  have PB := Lib.hid pb
  have HPR := Lib.hid (pairs_any (n : Int) wr)
  clear hwr p1 p2 p3 p4 pb l1 e01 e02 e03 e04 e05 s0 s1 t0 t1 f0 f1 g0 g1 n0 n1 k0 k0b R11 R21 R31 RF BF B1 hst
  refine ⟨trivial, (callsIn_wide.2 HPR.out).mono ?_⟩
  rintro e w2 ⟨rfl, hb, rt⟩
  have SL := Lib.hid (pairs_seq n wr.heap.size wr.heap.size (by omega) (Nat.le_refl _) w2 rt)
  have Q1 := Lib.hid (P1.out.below hb P1.out.lt)
  have Q2 := Lib.hid (P2.out.below hb P2.out.lt)
  have Q3 := Lib.hid (P3.out.below hb P3.out.lt)
  have Q4 := Lib.hid (P4.out.below hb P4.out.lt)
  have QB := Lib.hid (Below.andThen PB.out hb (Nat.le_refl _))
  have QS := Lib.hid hb.size
  clear hb rt HPR P1 P2 P3 P4 PB
  gi_wp2_with fail
  refine range_list SL.out rfl (enters_of Try.func98 (by kernel_rfl) rfl)
    (fun pre V => PrI w w1.heap.size (.slice a n c) (nrK ps pre) (faK ps pre) V)
    (fun _ _ _ => False) ?hI ?hIx ?h0
    (fun x a' V => ∃ b, a' = { tmps := #[.slice a n c, .pointer (some ⟨w.heap.size, 0, none⟩), .pointer (some ⟨w.heap.size + 1, 0, none⟩), .pointer (some ⟨w.heap.size + 1 + 1, 0, none⟩), .int .i64 0, .int .i64 0, .pointer (some ⟨w1.heap.size, 0, none⟩), .pointer (some ⟨b, 0, none⟩), .slice a n c, .int .i64 0, .int .i64 0, .bool false, undef, undef, undef, .slice a n c, .int .i64 (n : Int), .bool false, undef, undef, .func (.func 68) #[] #[.pointer (some ⟨w.heap.size, 0, none⟩)], .agg #[.int .i64 0, .int .i64 1], .agg #[.int .i64 0, .int .i64 1], .slice a n c, .int .i64 (n : Int), .func (.func 98) #[] #[.pointer (some ⟨wr.heap.size, 0, none⟩)], .agg #[.int .i64 (x.1 : Int), .int .i64 (x.2 : Int)], undef, undef, undef, undef, undef, undef, undef, undef, undef, undef, undef, undef, undef, undef, undef, undef, undef, undef], defers := [] } ∧ wr.heap.size ≤ b ∧ Row V b 28 [.int .i64 (x.1 : Int), .int .i64 (x.2 : Int)])
    ?hR ?assign ?body ?done ?stop
  case hI =>
    rintro pre V V' row h hg hr
    exact ⟨lasts_row _ _ _ _ V V' row h.p hg hr, lasts_row _ _ _ _ V V' row h.nr hg hr, lasts_row _ _ _ _ V V' row h.fa hg hr, lasts_row _ _ _ _ V V' row h.fn hg hr, lasts_below _ _ w QB.out.size (Nat.le_refl _) V V' row h.bl hg hr⟩
  case hIx => exact fun _ _ _ _ _ h _ _ => h
  case h0 => exact ⟨Q1.out, Q2.out, Q3.out, Q4.out, QB.out⟩
  case hR =>
    rintro x a' V V' row ⟨b, h1, h2, h3⟩ hg hr
    exact ⟨b, h1, h2, lasts_row _ _ _ _ V V' row h3 hg hr⟩
  case assign =>
    intro l2 x V K hs hK
    have hk := hK _ _ ⟨_, rfl, by have := QS.out; omega, Row.new V 28 [.int .i64 (x.1 : Int), .int .i64 (x.2 : Int)]⟩ ((Below.refl V.heap.size V).alloc (Nat.le_refl _) _)
    have HKk := Lib.hid hk
    clear hk hK
    dsimp only [encP]
    simp only [List.setIfInBounds_toArray, List.set_cons_succ, List.set_cons_zero]
    gi_wp2
    exact HKk.out
  case stop =>
    rintro D c pre V hD hpre hf hK
    exact hf.elim
  case done =>
    rintro D V hD h0 hK
    have hK' := Lib.hid (mark1 hK (show w.heap.size ≤ D from Nat.le_trans QB.out.size hD))
    obtain ⟨⟨r0, r1⟩, hr1⟩ : ∃ x, nrK ps (prL n) = x := ⟨_, rfl⟩
    obtain ⟨⟨s0, s1⟩, hr2⟩ : ∃ x, faK ps (prL n) = x := ⟨_, rfl⟩
    have HR1 := Lib.hid hr1
    have HR2 := Lib.hid hr2
    rw [hr1, hr2] at h0
    have h0' := Lib.hid h0
    have HN1 := Lib.hid h0.nr
    have HN2 := Lib.hid h0.fa
    have HBF := Lib.hid HLT.out.1
    clear h0 hK hr1 hr2
    dsimp only at HN1 HN2
    dsimp only
    simp only [Exit.inBlock]
    gi_wp2_with fail
    refine wpIn_region_box (by kernel_rfl) (by kernel_rfl) [43, 44, 1000, 1001, 4] [(fun v => v = .agg #[.int .i64 (r0 : Int), .int .i64 (r1 : Int)]), (fun v => v = .agg #[.int .i64 (s0 : Int), .int .i64 (s1 : Int)]), (fun v => v = undef), (fun v => v = undef), (fun v => v = .int .i64 0)] [none, none, none, none, none] [none, none, none, none, none] 5 rfl (by kernel_rfl) ?tr ⟨_, (putAll_self _ _).symm, rfl⟩ ?steps ?fin
    case tr =>
      rintro i v h
      rcases i with _ | _ | _ | _ | _ | i
      all_goals first | trivial | (exfalso; rcases h with h | h <;> simp at h)
    case steps =>
      simp only [boxStepsIn, Nat.reduceAdd, Nat.zero_add, List.getD_cons_succ, List.getD_cons_zero]
      refine ⟨?_, ?_, ?_, ?_, ?_, trivial⟩
      · rintro vs W K hc hvl hw hK
        obtain ⟨x0, x1, x2, x3, x4, rfl⟩ := len5 hvl
        have HK := Lib.hid hK
        have HC := Lib.hid hc
        have HW := Lib.hid hw
        clear hK hc hw hvl
        simp only [putAll, Act.put, List.setIfInBounds_toArray, List.set_cons_succ, List.set_cons_zero, List.set_nil]
        have rr := HN1.out.below HC.out HN1.out.lt
        have d0 := rr.cell 0
        have d1 := rr.cell 1
        simp only [List.getElem?_cons_zero, List.getElem?_cons_succ] at d0 d1
        clear rr
        clear HW
        gi_wp2_with fail
        have fin := HK.out (.agg #[.int .i64 (r0 : Int), .int .i64 (r1 : Int)]) W (Below.refl _ _) rfl
        simp only [putAll, Act.put, List.setIfInBounds_toArray, List.set_cons_succ, List.set_cons_zero, List.set_nil] at fin
        exact fin
      · rintro vs W K hc hvl hw hK
        obtain ⟨x0, x1, x2, x3, x4, rfl⟩ := len5 hvl
        have HK := Lib.hid hK
        have HC := Lib.hid hc
        have HW := Lib.hid hw
        clear hK hc hw hvl
        simp only [putAll, Act.put, List.setIfInBounds_toArray, List.set_cons_succ, List.set_cons_zero, List.set_nil]
        have rr := HN2.out.below HC.out HN2.out.lt
        have d0 := rr.cell 0
        have d1 := rr.cell 1
        simp only [List.getElem?_cons_zero, List.getElem?_cons_succ] at d0 d1
        clear rr
        clear HW
        gi_wp2_with fail
        have fin := HK.out (.agg #[.int .i64 (s0 : Int), .int .i64 (s1 : Int)]) W (Below.refl _ _) rfl
        simp only [putAll, Act.put, List.setIfInBounds_toArray, List.set_cons_succ, List.set_cons_zero, List.set_nil] at fin
        exact fin
      · rintro vs W K hc hvl hw hK
        obtain ⟨x0, x1, x2, x3, x4, rfl⟩ := len5 hvl
        have HK := Lib.hid hK
        have HC := Lib.hid hc
        have HW := Lib.hid hw
        clear hK hc hw hvl
        obtain rfl : x0 = .agg #[.int .i64 (r0 : Int), .int .i64 (r1 : Int)] := box_get (HW.out ⟨0, .data⟩ (by simp) rfl) rfl
        simp only [putAll, Act.put, List.setIfInBounds_toArray, List.set_cons_succ, List.set_cons_zero, List.set_nil]
        have rr := HN1.out.below HC.out HN1.out.lt
        have c0 := rr.cell 0
        have c1 := rr.cell 1
        have f0 := frozen_of_row _ (w.heap.size + 1) 0 _ _ rr
        have f1 := frozen_of_row _ (w.heap.size + 1) 1 _ _ rr
        simp only [List.getElem?_cons_zero, List.getElem?_cons_succ] at c0 c1
        have RR := Lib.hid rr
        clear rr HW
        gi_wp2_with fail
        rw [setCell_same RR.out 0 _ rfl, setCell_same RR.out 1 _ rfl]
        have fin := HK.out undef W (Below.refl _ _) rfl
        simp only [putAll, Act.put, List.setIfInBounds_toArray, List.set_cons_succ, List.set_cons_zero, List.set_nil] at fin
        exact fin
      · rintro vs W K hc hvl hw hK
        obtain ⟨x0, x1, x2, x3, x4, rfl⟩ := len5 hvl
        have HK := Lib.hid hK
        have HC := Lib.hid hc
        have HW := Lib.hid hw
        clear hK hc hw hvl
        obtain rfl : x1 = .agg #[.int .i64 (s0 : Int), .int .i64 (s1 : Int)] := box_get (HW.out ⟨1, .data⟩ (by simp) rfl) rfl
        simp only [putAll, Act.put, List.setIfInBounds_toArray, List.set_cons_succ, List.set_cons_zero, List.set_nil]
        have rr := HN2.out.below HC.out HN2.out.lt
        have c0 := rr.cell 0
        have c1 := rr.cell 1
        have f0 := frozen_of_row _ (w.heap.size + 1 + 1) 0 _ _ rr
        have f1 := frozen_of_row _ (w.heap.size + 1 + 1) 1 _ _ rr
        simp only [List.getElem?_cons_zero, List.getElem?_cons_succ] at c0 c1
        have RR := Lib.hid rr
        clear rr HW
        gi_wp2_with fail
        rw [setCell_same RR.out 0 _ rfl, setCell_same RR.out 1 _ rfl]
        have fin := HK.out undef W (Below.refl _ _) rfl
        simp only [putAll, Act.put, List.setIfInBounds_toArray, List.set_cons_succ, List.set_cons_zero, List.set_nil] at fin
        exact fin
      · rintro vs W K hc hvl hw hK
        obtain ⟨x0, x1, x2, x3, x4, rfl⟩ := len5 hvl
        have HK := Lib.hid hK
        have HC := Lib.hid hc
        have HW := Lib.hid hw
        clear hK hc hw hvl
        simp only [putAll, Act.put, List.setIfInBounds_toArray, List.set_cons_succ, List.set_cons_zero, List.set_nil]
        clear HW
        gi_wp2_with fail
        have fin := HK.out (.int .i64 0) W (Below.refl _ _) rfl
        simp only [putAll, Act.put, List.setIfInBounds_toArray, List.set_cons_succ, List.set_cons_zero, List.set_nil] at fin
        exact fin
    case fin =>
      rintro vs W hJ
      obtain ⟨x0, x1, x2, x3, x4, rfl⟩ := len5 hJ.ln
      obtain rfl : x4 = .int .i64 0 := box_get (hJ.val 4 rfl) rfl
      have HC := Lib.hid hJ.bl
      clear hJ
      simp only [putAll, Act.put, List.setIfInBounds_toArray, List.set_cons_succ, List.set_cons_zero, List.set_nil]
      have HV := Lib.hid (h0'.out.grow HC.out)
      have HK9 := Lib.hid (hK'.out.keeps (fun D' _ hD' => (HC.out.block D' (Array.getElem?_eq_some_iff.1 hD').1).trans hD'))
      gi_wp2_with fail
      refine leaves_marks (B := w.heap.size) (fun X => Below w.heap.size w X ∧ (Row X (w.heap.size + 1) 28 [.int .i64 (r0 : Int), .int .i64 (r1 : Int)] ∧ Row X (w.heap.size + 1 + 1) 28 [.int .i64 (s0 : Int), .int .i64 (s1 : Int)])) ((lasts_below _ _ _ (Nat.le_refl _) (Nat.le_refl _)).and ((lasts_row _ _ _ _).and (lasts_row _ _ _ _))) ?_ _ _ HK9.out ⟨HV.out.bl, HV.out.nr, HV.out.fa⟩
      rintro X ⟨hX, x2, x3⟩
      have v0 := x2.cell 0
      have v1 := x2.cell 1
      have u0 := x3.cell 0
      have u1 := x3.cell 1
      simp only [List.getElem?_cons_zero, List.getElem?_cons_succ] at v0 v1 u0 u1
      refine ⟨.tuple #[.agg #[.int .i64 (r0 : Int), .int .i64 (r1 : Int)], .agg #[.int .i64 (s0 : Int), .int .i64 (s1 : Int)], .int .i64 0], ?_, by rw [HR1.out, HR2.out]; rfl, hX⟩
      simp [results, Try.results26, go_sem, v0, v1, u0, u1]
  case body =>
    rintro l2 x pre a' V hpre hs h ⟨b, rfl, hb, hr⟩
    have hx := mem_prL.1 (hpre.subset (by simp : x ∈ pre ++ [x]))
    have hpm : ∀ t ∈ pre, t ∈ prL n := fun t ht => hpre.subset (List.mem_append_left _ ht)
    have HNR := Lib.hid (nr_lt (ps := ps) h2 hpm)
    have HFA := Lib.hid (fa_lt (ps := ps) h2 hpm)
    have HST := Lib.hid (And.intro (nrK_snoc ps pre x) (faK_snoc ps pre x))
    have HPI := Lib.hid h
    have HPX := Lib.hid hr
    have HBB := Lib.hid hb
    have HDS := Lib.hid (fun (t0 t1 : Nat) (k0 : t0 < n) (k1 : t1 < n) (W : World) (hr : Row W w.heap.size 22 [.slice a n c]) (hb : Below w.heap.size w W) => pd_any ps (.slice a n c) w.heap.size t0 t1 W hr (HSL.out.grow hb) (by rw [HN.out]; exact k0) (by rw [HN.out]; exact k1) HPS.out)
    have HSZ := Lib.hid hs
    obtain ⟨t0, t1⟩ := x
    dsimp only at hx HPX HST
    have HX := Lib.hid (show t0 < n ∧ t1 < n by omega)
    generalize nrK ps pre = nr at *
    generalize faK ps pre = fa at *
    obtain ⟨n0, n1⟩ := nr
    obtain ⟨f0, f1⟩ := fa
    have HDX := Lib.hid (fun W hr hb => HDS.out t0 t1 HX.out.1 HX.out.2 W hr hb)
    have HDN := Lib.hid (fun W hr hb => HDS.out n0 n1 HNR.out.1 HNR.out.2 W hr hb)
    have HDF := Lib.hid (fun W hr hb => HDS.out f0 f1 HFA.out.1 HFA.out.2 W hr hb)
    generalize pdF ps (t0, t1) = DX at *
    generalize pdF ps (n0, n1) = DN at *
    generalize pdF ps (f0, f1) = DF at *
    obtain ⟨E, hE⟩ : ∃ E, decide (DX < DN) = E := ⟨_, rfl⟩
    obtain ⟨F, hF⟩ : ∃ F, decide (DX > DF) = F := ⟨_, rfl⟩
    have hF2 : decide (DF < DX) = F := hF
    have HEE := Lib.hid hE
    have HFF := Lib.hid (And.intro hF hF2)
    have HNN := Lib.hid (show nrK ps (pre ++ [(t0, t1)]) = if E = true then (t0, t1) else (n0, n1) by rw [HST.out.1, ← hE]; simp)
    have HFN := Lib.hid (show faK ps (pre ++ [(t0, t1)]) = if F = true then (t0, t1) else (f0, f1) by rw [HST.out.2, ← hF]; simp)
    have HBF := Lib.hid HLT.out.1
    clear hx hpm h hr hb hs hpre hE hF hF2 HDS HST
    gi_wp2_with fail
    refine wpIn_region_box (by kernel_rfl) (by kernel_rfl) [27, 28, 29, 30, 31, 32, 33] [(fun v => v = .func (.func 68) #[] #[.pointer (some ⟨w.heap.size, 0, none⟩)]), (fun v => v = .agg #[.int .i64 (t0 : Int), .int .i64 (t1 : Int)]), (fun v => v = .int .i64 DX), (fun v => v = .func (.func 68) #[] #[.pointer (some ⟨w.heap.size, 0, none⟩)]), (fun v => v = .agg #[.int .i64 (n0 : Int), .int .i64 (n1 : Int)]), (fun v => v = .int .i64 DN), (fun v => v = .bool E)] [none, none, none, none, none, none, none] [none, none, none, none, none, none, none] 7 rfl (by kernel_rfl) ?tr ⟨_, (putAll_self _ _).symm, rfl⟩ ?steps ?fin
    case tr =>
      rintro i v h
      rcases i with _ | _ | _ | _ | _ | _ | _ | i
      all_goals first | trivial | (exfalso; rcases h with h | h <;> simp at h)
    case steps =>
      simp only [boxStepsIn, Nat.reduceAdd, Nat.zero_add, List.getD_cons_succ, List.getD_cons_zero]
      refine ⟨?_, ?_, ?_, ?_, ?_, ?_, ?_, trivial⟩
      · rintro vs W K hc hvl hw hK
        obtain ⟨x0, x1, x2, x3, x4, x5, x6, rfl⟩ := len7 hvl
        have HK := Lib.hid hK
        have HC := Lib.hid hc
        have HW := Lib.hid hw
        clear hK hc hw hvl
        simp only [putAll, Act.put, List.setIfInBounds_toArray, List.set_cons_succ, List.set_cons_zero]
        have rr := (HPI.out.grow HC.out).fn
        have d0 := rr.cell 0
        simp only [List.getElem?_cons_zero] at d0
        clear rr
        clear HW
        gi_wp2_with fail
        have fin := HK.out (.func (.func 68) #[] #[.pointer (some ⟨w.heap.size, 0, none⟩)]) W (Below.refl _ _) rfl
        simp only [putAll, Act.put, List.setIfInBounds_toArray, List.set_cons_succ, List.set_cons_zero] at fin
        exact fin
      · rintro vs W K hc hvl hw hK
        obtain ⟨x0, x1, x2, x3, x4, x5, x6, rfl⟩ := len7 hvl
        have HK := Lib.hid hK
        have HC := Lib.hid hc
        have HW := Lib.hid hw
        clear hK hc hw hvl
        simp only [putAll, Act.put, List.setIfInBounds_toArray, List.set_cons_succ, List.set_cons_zero]
        have rr := HPX.out.below HC.out HPX.out.lt
        have d0 := rr.cell 0
        have d1 := rr.cell 1
        simp only [List.getElem?_cons_zero, List.getElem?_cons_succ] at d0 d1
        clear rr
        clear HW
        gi_wp2_with fail
        have fin := HK.out (.agg #[.int .i64 (t0 : Int), .int .i64 (t1 : Int)]) W (Below.refl _ _) rfl
        simp only [putAll, Act.put, List.setIfInBounds_toArray, List.set_cons_succ, List.set_cons_zero] at fin
        exact fin
      · rintro vs W K hc hvl hw hK
        obtain ⟨x0, x1, x2, x3, x4, x5, x6, rfl⟩ := len7 hvl
        have HK := Lib.hid hK
        have HC := Lib.hid hc
        have HW := Lib.hid hw
        clear hK hc hw hvl
        obtain rfl : x0 = .func (.func 68) #[] #[.pointer (some ⟨w.heap.size, 0, none⟩)] := box_get (HW.out ⟨0, .data⟩ (by simp) rfl) rfl
        obtain rfl : x1 = .agg #[.int .i64 (t0 : Int), .int .i64 (t1 : Int)] := box_get (HW.out ⟨1, .data⟩ (by simp) rfl) rfl
        simp only [putAll, Act.put, List.setIfInBounds_toArray, List.set_cons_succ, List.set_cons_zero]
        have hen := (show ∀ (args : Array Value) (W : World), (callFunc 68 args).run Try.prog W = .ok (.enter 68 args) W from enters_of Try.func68 (by kernel_rfl) rfl)
        clear HW
        gi_wp2_with fail
        refine ⟨trivial, (CallsIn.inRound l2 (callsIn_wide.2 (HDX.out W (HPI.out.grow HC.out).p (HPI.out.grow HC.out).bl))).mono ?_⟩
        rintro e W' ⟨rfl, hb'⟩
        have HB' := Lib.hid hb'
        clear hb'
        gi_wp2_with fail
        have fin := HK.out (.int .i64 DX) W' HB'.out rfl
        simp only [putAll, Act.put, List.setIfInBounds_toArray, List.set_cons_succ, List.set_cons_zero] at fin
        exact fin
      · rintro vs W K hc hvl hw hK
        obtain ⟨x0, x1, x2, x3, x4, x5, x6, rfl⟩ := len7 hvl
        have HK := Lib.hid hK
        have HC := Lib.hid hc
        have HW := Lib.hid hw
        clear hK hc hw hvl
        simp only [putAll, Act.put, List.setIfInBounds_toArray, List.set_cons_succ, List.set_cons_zero]
        have rr := (HPI.out.grow HC.out).fn
        have d0 := rr.cell 0
        simp only [List.getElem?_cons_zero] at d0
        clear rr
        clear HW
        gi_wp2_with fail
        have fin := HK.out (.func (.func 68) #[] #[.pointer (some ⟨w.heap.size, 0, none⟩)]) W (Below.refl _ _) rfl
        simp only [putAll, Act.put, List.setIfInBounds_toArray, List.set_cons_succ, List.set_cons_zero] at fin
        exact fin
      · rintro vs W K hc hvl hw hK
        obtain ⟨x0, x1, x2, x3, x4, x5, x6, rfl⟩ := len7 hvl
        have HK := Lib.hid hK
        have HC := Lib.hid hc
        have HW := Lib.hid hw
        clear hK hc hw hvl
        simp only [putAll, Act.put, List.setIfInBounds_toArray, List.set_cons_succ, List.set_cons_zero]
        have rr := (HPI.out.grow HC.out).nr
        have d0 := rr.cell 0
        have d1 := rr.cell 1
        simp only [List.getElem?_cons_zero, List.getElem?_cons_succ] at d0 d1
        clear rr
        clear HW
        gi_wp2_with fail
        have fin := HK.out (.agg #[.int .i64 (n0 : Int), .int .i64 (n1 : Int)]) W (Below.refl _ _) rfl
        simp only [putAll, Act.put, List.setIfInBounds_toArray, List.set_cons_succ, List.set_cons_zero] at fin
        exact fin
      · rintro vs W K hc hvl hw hK
        obtain ⟨x0, x1, x2, x3, x4, x5, x6, rfl⟩ := len7 hvl
        have HK := Lib.hid hK
        have HC := Lib.hid hc
        have HW := Lib.hid hw
        clear hK hc hw hvl
        obtain rfl : x3 = .func (.func 68) #[] #[.pointer (some ⟨w.heap.size, 0, none⟩)] := box_get (HW.out ⟨3, .data⟩ (by simp) rfl) rfl
        obtain rfl : x4 = .agg #[.int .i64 (n0 : Int), .int .i64 (n1 : Int)] := box_get (HW.out ⟨4, .data⟩ (by simp) rfl) rfl
        simp only [putAll, Act.put, List.setIfInBounds_toArray, List.set_cons_succ, List.set_cons_zero]
        have hen := (show ∀ (args : Array Value) (W : World), (callFunc 68 args).run Try.prog W = .ok (.enter 68 args) W from enters_of Try.func68 (by kernel_rfl) rfl)
        clear HW
        gi_wp2_with fail
        refine ⟨trivial, (CallsIn.inRound l2 (callsIn_wide.2 (HDN.out W (HPI.out.grow HC.out).p (HPI.out.grow HC.out).bl))).mono ?_⟩
        rintro e W' ⟨rfl, hb'⟩
        have HB' := Lib.hid hb'
        clear hb'
        gi_wp2_with fail
        have fin := HK.out (.int .i64 DN) W' HB'.out rfl
        simp only [putAll, Act.put, List.setIfInBounds_toArray, List.set_cons_succ, List.set_cons_zero] at fin
        exact fin
      · rintro vs W K hc hvl hw hK
        obtain ⟨x0, x1, x2, x3, x4, x5, x6, rfl⟩ := len7 hvl
        have HK := Lib.hid hK
        have HC := Lib.hid hc
        have HW := Lib.hid hw
        clear hK hc hw hvl
        obtain rfl : x2 = .int .i64 DX := box_get (HW.out ⟨2, .data⟩ (by simp) rfl) rfl
        obtain rfl : x5 = .int .i64 DN := box_get (HW.out ⟨5, .data⟩ (by simp) rfl) rfl
        simp only [putAll, Act.put, List.setIfInBounds_toArray, List.set_cons_succ, List.set_cons_zero]
        have e1 := HEE.out
        clear HW
        gi_wp2_with fail
        have fin := HK.out (.bool E) W (Below.refl _ _) rfl
        simp only [putAll, Act.put, List.setIfInBounds_toArray, List.set_cons_succ, List.set_cons_zero] at fin
        exact fin
    case fin =>
      rintro vs W hJ
      obtain ⟨x0, x1, x2, x3, x4, x5, x6, rfl⟩ := len7 hJ.ln
      obtain rfl : x6 = .bool E := box_get (hJ.val 6 rfl) rfl
      have HC := Lib.hid hJ.bl
      clear hJ
      simp only [putAll, Act.put, List.setIfInBounds_toArray, List.set_cons_succ, List.set_cons_zero]
      have HP2 := Lib.hid (HPI.out.grow HC.out)
      have HX2 := Lib.hid (HPX.out.below HC.out HPX.out.lt)
      have KF2 := Lib.hid (kf_below w2.heap.size HC.out)
      have KI2 := Lib.hid (KeepsI.of_below (B := wr.heap.size) HC.out)
      clear HC HPI HPX HDN
      cases E with
      | true =>
        have q := HP2.out.nr
        have c0 := q.cell 0
        have c1 := q.cell 1
        have z0 := frozen_of_row _ (w.heap.size + 1) 0 _ _ q
        have z1 := frozen_of_row _ (w.heap.size + 1) 1 _ _ q
        simp only [List.getElem?_cons_zero, List.getElem?_cons_succ] at c0 c1
        clear q
        have q := HX2.out
        have x0 := q.cell 0
        have x1 := q.cell 1
        simp only [List.getElem?_cons_zero, List.getElem?_cons_succ] at x0 x1
        clear q
        have HP4 := Lib.hid (HP2.out.setNr HBF.out (t0, t1))
        have hx4 := (HX2.out.other 0 (.int .i64 (t0 : Int)) (show b ≠ w.heap.size + 1 by have := HBB.out; have := HLT.out; omega)).other 1 (.int .i64 (t1 : Int)) (show b ≠ w.heap.size + 1 by have := HBB.out; have := HLT.out; omega)
        have HX4 := Lib.hid hx4
        have KF4 := Lib.hid (KF2.out.trans ((kf_set w2.heap.size W (w.heap.size + 1) 0 (.int .i64 (t0 : Int)) (by have := HLT.out; have := QS.out; omega)).trans (kf_set w2.heap.size _ (w.heap.size + 1) 1 (.int .i64 (t1 : Int)) (by have := HLT.out; have := QS.out; omega))))
        have KI4 := Lib.hid (KI2.out.trans ((ki_set wr.heap.size W (w.heap.size + 1) 0 (.int .i64 (t0 : Int)) (by have := HLT.out; omega)).trans (ki_set wr.heap.size _ (w.heap.size + 1) 1 (.int .i64 (t1 : Int)) (by have := HLT.out; omega))))
        clear hx4
        obtain ⟨W4, hW4⟩ : ∃ Wz, (W.setCell ⟨w.heap.size + 1, 0, none⟩ (.int .i64 (t0 : Int))).setCell ⟨w.heap.size + 1, 1, none⟩ (.int .i64 (t1 : Int)) = Wz := ⟨_, rfl⟩
        have HW4 := Lib.hid hW4
        have p4 := HP4.out
        have x4 := HX4.out
        have k4 := KF4.out
        have i4 := KI4.out
        dsimp only at p4
        rw [hW4] at p4 x4 k4 i4
        have HP5 := Lib.hid p4
        have HX5 := Lib.hid x4
        have KF5 := Lib.hid k4
        have KI5 := Lib.hid i4
        clear hW4 p4 x4 k4 i4 HP4 HX4 KF4 KI4
        gi_wp2_with fail
        rw [HW4.out]
        clear c0 c1 z0 z1 x0 x1 HW4
        refine wpIn_region_box (by kernel_rfl) (by kernel_rfl) [35, 36, 37, 38, 39, 40, 41] [(fun v => v = .func (.func 68) #[] #[.pointer (some ⟨w.heap.size, 0, none⟩)]), (fun v => v = .agg #[.int .i64 (t0 : Int), .int .i64 (t1 : Int)]), (fun v => v = .int .i64 DX), (fun v => v = .func (.func 68) #[] #[.pointer (some ⟨w.heap.size, 0, none⟩)]), (fun v => v = .agg #[.int .i64 (f0 : Int), .int .i64 (f1 : Int)]), (fun v => v = .int .i64 DF), (fun v => v = .bool F)] [none, none, none, none, none, none, none] [none, none, none, none, none, none, none] 7 rfl (by kernel_rfl) ?tr ⟨_, (putAll_self _ _).symm, rfl⟩ ?steps ?fin
        case tr =>
          rintro i v h
          rcases i with _ | _ | _ | _ | _ | _ | _ | i
          all_goals first | trivial | (exfalso; rcases h with h | h <;> simp at h)
        case steps =>
          simp only [boxStepsIn, Nat.reduceAdd, Nat.zero_add, List.getD_cons_succ, List.getD_cons_zero]
          refine ⟨?_, ?_, ?_, ?_, ?_, ?_, ?_, trivial⟩
          · rintro vs W K hc hvl hw hK
            obtain ⟨x0, x1, x2, x3, x4, x5, x6, rfl⟩ := len7 hvl
            have HK := Lib.hid hK
            have HC := Lib.hid hc
            have HW := Lib.hid hw
            clear hK hc hw hvl
            simp only [putAll, Act.put, List.setIfInBounds_toArray, List.set_cons_succ, List.set_cons_zero]
            have rr := (HP5.out.grow HC.out).fn
            have d0 := rr.cell 0
            simp only [List.getElem?_cons_zero] at d0
            clear rr
            clear HW
            gi_wp2_with fail
            have fin := HK.out (.func (.func 68) #[] #[.pointer (some ⟨w.heap.size, 0, none⟩)]) W (Below.refl _ _) rfl
            simp only [putAll, Act.put, List.setIfInBounds_toArray, List.set_cons_succ, List.set_cons_zero] at fin
            exact fin
          · rintro vs W K hc hvl hw hK
            obtain ⟨x0, x1, x2, x3, x4, x5, x6, rfl⟩ := len7 hvl
            have HK := Lib.hid hK
            have HC := Lib.hid hc
            have HW := Lib.hid hw
            clear hK hc hw hvl
            simp only [putAll, Act.put, List.setIfInBounds_toArray, List.set_cons_succ, List.set_cons_zero]
            have rr := HX5.out.below HC.out HX5.out.lt
            have d0 := rr.cell 0
            have d1 := rr.cell 1
            simp only [List.getElem?_cons_zero, List.getElem?_cons_succ] at d0 d1
            clear rr
            clear HW
            gi_wp2_with fail
            have fin := HK.out (.agg #[.int .i64 (t0 : Int), .int .i64 (t1 : Int)]) W (Below.refl _ _) rfl
            simp only [putAll, Act.put, List.setIfInBounds_toArray, List.set_cons_succ, List.set_cons_zero] at fin
            exact fin
          · rintro vs W K hc hvl hw hK
            obtain ⟨x0, x1, x2, x3, x4, x5, x6, rfl⟩ := len7 hvl
            have HK := Lib.hid hK
            have HC := Lib.hid hc
            have HW := Lib.hid hw
            clear hK hc hw hvl
            obtain rfl : x0 = .func (.func 68) #[] #[.pointer (some ⟨w.heap.size, 0, none⟩)] := box_get (HW.out ⟨0, .data⟩ (by simp) rfl) rfl
            obtain rfl : x1 = .agg #[.int .i64 (t0 : Int), .int .i64 (t1 : Int)] := box_get (HW.out ⟨1, .data⟩ (by simp) rfl) rfl
            simp only [putAll, Act.put, List.setIfInBounds_toArray, List.set_cons_succ, List.set_cons_zero]
            have hen := (show ∀ (args : Array Value) (W : World), (callFunc 68 args).run Try.prog W = .ok (.enter 68 args) W from enters_of Try.func68 (by kernel_rfl) rfl)
            clear HW
            gi_wp2_with fail
            refine ⟨trivial, (CallsIn.inRound l2 (callsIn_wide.2 (HDX.out W (HP5.out.grow HC.out).p (HP5.out.grow HC.out).bl))).mono ?_⟩
            rintro e W' ⟨rfl, hb'⟩
            have HB' := Lib.hid hb'
            clear hb'
            gi_wp2_with fail
            have fin := HK.out (.int .i64 DX) W' HB'.out rfl
            simp only [putAll, Act.put, List.setIfInBounds_toArray, List.set_cons_succ, List.set_cons_zero] at fin
            exact fin
          · rintro vs W K hc hvl hw hK
            obtain ⟨x0, x1, x2, x3, x4, x5, x6, rfl⟩ := len7 hvl
            have HK := Lib.hid hK
            have HC := Lib.hid hc
            have HW := Lib.hid hw
            clear hK hc hw hvl
            simp only [putAll, Act.put, List.setIfInBounds_toArray, List.set_cons_succ, List.set_cons_zero]
            have rr := (HP5.out.grow HC.out).fn
            have d0 := rr.cell 0
            simp only [List.getElem?_cons_zero] at d0
            clear rr
            clear HW
            gi_wp2_with fail
            have fin := HK.out (.func (.func 68) #[] #[.pointer (some ⟨w.heap.size, 0, none⟩)]) W (Below.refl _ _) rfl
            simp only [putAll, Act.put, List.setIfInBounds_toArray, List.set_cons_succ, List.set_cons_zero] at fin
            exact fin
          · rintro vs W K hc hvl hw hK
            obtain ⟨x0, x1, x2, x3, x4, x5, x6, rfl⟩ := len7 hvl
            have HK := Lib.hid hK
            have HC := Lib.hid hc
            have HW := Lib.hid hw
            clear hK hc hw hvl
            simp only [putAll, Act.put, List.setIfInBounds_toArray, List.set_cons_succ, List.set_cons_zero]
            have rr := (HP5.out.grow HC.out).fa
            have d0 := rr.cell 0
            have d1 := rr.cell 1
            simp only [List.getElem?_cons_zero, List.getElem?_cons_succ] at d0 d1
            clear rr
            clear HW
            gi_wp2_with fail
            have fin := HK.out (.agg #[.int .i64 (f0 : Int), .int .i64 (f1 : Int)]) W (Below.refl _ _) rfl
            simp only [putAll, Act.put, List.setIfInBounds_toArray, List.set_cons_succ, List.set_cons_zero] at fin
            exact fin
          · rintro vs W K hc hvl hw hK
            obtain ⟨x0, x1, x2, x3, x4, x5, x6, rfl⟩ := len7 hvl
            have HK := Lib.hid hK
            have HC := Lib.hid hc
            have HW := Lib.hid hw
            clear hK hc hw hvl
            obtain rfl : x3 = .func (.func 68) #[] #[.pointer (some ⟨w.heap.size, 0, none⟩)] := box_get (HW.out ⟨3, .data⟩ (by simp) rfl) rfl
            obtain rfl : x4 = .agg #[.int .i64 (f0 : Int), .int .i64 (f1 : Int)] := box_get (HW.out ⟨4, .data⟩ (by simp) rfl) rfl
            simp only [putAll, Act.put, List.setIfInBounds_toArray, List.set_cons_succ, List.set_cons_zero]
            have hen := (show ∀ (args : Array Value) (W : World), (callFunc 68 args).run Try.prog W = .ok (.enter 68 args) W from enters_of Try.func68 (by kernel_rfl) rfl)
            clear HW
            gi_wp2_with fail
            refine ⟨trivial, (CallsIn.inRound l2 (callsIn_wide.2 (HDF.out W (HP5.out.grow HC.out).p (HP5.out.grow HC.out).bl))).mono ?_⟩
            rintro e W' ⟨rfl, hb'⟩
            have HB' := Lib.hid hb'
            clear hb'
            gi_wp2_with fail
            have fin := HK.out (.int .i64 DF) W' HB'.out rfl
            simp only [putAll, Act.put, List.setIfInBounds_toArray, List.set_cons_succ, List.set_cons_zero] at fin
            exact fin
          · rintro vs W K hc hvl hw hK
            obtain ⟨x0, x1, x2, x3, x4, x5, x6, rfl⟩ := len7 hvl
            have HK := Lib.hid hK
            have HC := Lib.hid hc
            have HW := Lib.hid hw
            clear hK hc hw hvl
            obtain rfl : x2 = .int .i64 DX := box_get (HW.out ⟨2, .data⟩ (by simp) rfl) rfl
            obtain rfl : x5 = .int .i64 DF := box_get (HW.out ⟨5, .data⟩ (by simp) rfl) rfl
            simp only [putAll, Act.put, List.setIfInBounds_toArray, List.set_cons_succ, List.set_cons_zero]
            have e1 := HFF.out.1
            have e2 := HFF.out.2
            clear HW
            gi_wp2_with fail
            have fin := HK.out (.bool F) W (Below.refl _ _) rfl
            simp only [putAll, Act.put, List.setIfInBounds_toArray, List.set_cons_succ, List.set_cons_zero] at fin
            exact fin
        case fin =>
          rintro vs W hJ
          obtain ⟨x0, x1, x2, x3, x4, x5, x6, rfl⟩ := len7 hJ.ln
          obtain rfl : x6 = .bool F := box_get (hJ.val 6 rfl) rfl
          have HC := Lib.hid hJ.bl
          clear hJ
          simp only [putAll, Act.put, List.setIfInBounds_toArray, List.set_cons_succ, List.set_cons_zero]
          have HP3 := Lib.hid (HP5.out.grow HC.out)
          have HX3 := Lib.hid (HX5.out.below HC.out HX5.out.lt)
          have KF3 := Lib.hid (KF5.out.trans (kf_below w2.heap.size HC.out))
          have KI3 := Lib.hid (KI5.out.trans (KeepsI.of_below (B := wr.heap.size) HC.out))
          clear HC
          cases F with
          | true =>
            have q := HP3.out.fa
            have c0 := q.cell 0
            have c1 := q.cell 1
            have z0 := frozen_of_row _ (w.heap.size + 1 + 1) 0 _ _ q
            have z1 := frozen_of_row _ (w.heap.size + 1 + 1) 1 _ _ q
            simp only [List.getElem?_cons_zero, List.getElem?_cons_succ] at c0 c1
            clear q
            have q := HX3.out
            have x0 := q.cell 0
            have x1 := q.cell 1
            simp only [List.getElem?_cons_zero, List.getElem?_cons_succ] at x0 x1
            clear q
            gi_wp2_with fail
            refine ⟨KF3.out.trans ((kf_set _ _ _ _ _ (by have := HLT.out; have := QS.out; omega)).trans (kf_set _ _ _ _ _ (by have := HLT.out; have := QS.out; omega))), KI3.out.trans ((ki_set _ _ _ _ _ (by have := HLT.out; omega)).trans (ki_set _ _ _ _ _ (by have := HLT.out; omega))), ?_⟩
            show PrI w w1.heap.size (.slice a n c) (nrK ps (pre ++ [(t0, t1)])) (faK ps (pre ++ [(t0, t1)])) _
            rw [HNN.out, HFN.out, if_pos (by trivial), if_pos (by trivial)]
            exact HP3.out.setFa HBF.out (t0, t1)
          | false =>
            gi_wp2_with fail
            refine ⟨KF3.out, KI3.out, ?_⟩
            show PrI w w1.heap.size (.slice a n c) (nrK ps (pre ++ [(t0, t1)])) (faK ps (pre ++ [(t0, t1)])) _
            rw [HNN.out, HFN.out, if_pos (by trivial), if_neg (by simp)]
            exact HP3.out
      | false =>
        gi_wp2_with fail
        refine wpIn_region_box (by kernel_rfl) (by kernel_rfl) [35, 36, 37, 38, 39, 40, 41] [(fun v => v = .func (.func 68) #[] #[.pointer (some ⟨w.heap.size, 0, none⟩)]), (fun v => v = .agg #[.int .i64 (t0 : Int), .int .i64 (t1 : Int)]), (fun v => v = .int .i64 DX), (fun v => v = .func (.func 68) #[] #[.pointer (some ⟨w.heap.size, 0, none⟩)]), (fun v => v = .agg #[.int .i64 (f0 : Int), .int .i64 (f1 : Int)]), (fun v => v = .int .i64 DF), (fun v => v = .bool F)] [none, none, none, none, none, none, none] [none, none, none, none, none, none, none] 7 rfl (by kernel_rfl) ?tr ⟨_, (putAll_self _ _).symm, rfl⟩ ?steps ?fin
        case tr =>
          rintro i v h
          rcases i with _ | _ | _ | _ | _ | _ | _ | i
          all_goals first | trivial | (exfalso; rcases h with h | h <;> simp at h)
        case steps =>
          simp only [boxStepsIn, Nat.reduceAdd, Nat.zero_add, List.getD_cons_succ, List.getD_cons_zero]
          refine ⟨?_, ?_, ?_, ?_, ?_, ?_, ?_, trivial⟩
          · rintro vs W K hc hvl hw hK
            obtain ⟨x0, x1, x2, x3, x4, x5, x6, rfl⟩ := len7 hvl
            have HK := Lib.hid hK
            have HC := Lib.hid hc
            have HW := Lib.hid hw
            clear hK hc hw hvl
            simp only [putAll, Act.put, List.setIfInBounds_toArray, List.set_cons_succ, List.set_cons_zero]
            have rr := (HP2.out.grow HC.out).fn
            have d0 := rr.cell 0
            simp only [List.getElem?_cons_zero] at d0
            clear rr
            clear HW
            gi_wp2_with fail
            have fin := HK.out (.func (.func 68) #[] #[.pointer (some ⟨w.heap.size, 0, none⟩)]) W (Below.refl _ _) rfl
            simp only [putAll, Act.put, List.setIfInBounds_toArray, List.set_cons_succ, List.set_cons_zero] at fin
            exact fin
          · rintro vs W K hc hvl hw hK
            obtain ⟨x0, x1, x2, x3, x4, x5, x6, rfl⟩ := len7 hvl
            have HK := Lib.hid hK
            have HC := Lib.hid hc
            have HW := Lib.hid hw
            clear hK hc hw hvl
            simp only [putAll, Act.put, List.setIfInBounds_toArray, List.set_cons_succ, List.set_cons_zero]
            have rr := HX2.out.below HC.out HX2.out.lt
            have d0 := rr.cell 0
            have d1 := rr.cell 1
            simp only [List.getElem?_cons_zero, List.getElem?_cons_succ] at d0 d1
            clear rr
            clear HW
            gi_wp2_with fail
            have fin := HK.out (.agg #[.int .i64 (t0 : Int), .int .i64 (t1 : Int)]) W (Below.refl _ _) rfl
            simp only [putAll, Act.put, List.setIfInBounds_toArray, List.set_cons_succ, List.set_cons_zero] at fin
            exact fin
          · rintro vs W K hc hvl hw hK
            obtain ⟨x0, x1, x2, x3, x4, x5, x6, rfl⟩ := len7 hvl
            have HK := Lib.hid hK
            have HC := Lib.hid hc
            have HW := Lib.hid hw
            clear hK hc hw hvl
            obtain rfl : x0 = .func (.func 68) #[] #[.pointer (some ⟨w.heap.size, 0, none⟩)] := box_get (HW.out ⟨0, .data⟩ (by simp) rfl) rfl
            obtain rfl : x1 = .agg #[.int .i64 (t0 : Int), .int .i64 (t1 : Int)] := box_get (HW.out ⟨1, .data⟩ (by simp) rfl) rfl
            simp only [putAll, Act.put, List.setIfInBounds_toArray, List.set_cons_succ, List.set_cons_zero]
            have hen := (show ∀ (args : Array Value) (W : World), (callFunc 68 args).run Try.prog W = .ok (.enter 68 args) W from enters_of Try.func68 (by kernel_rfl) rfl)
            clear HW
            gi_wp2_with fail
            refine ⟨trivial, (CallsIn.inRound l2 (callsIn_wide.2 (HDX.out W (HP2.out.grow HC.out).p (HP2.out.grow HC.out).bl))).mono ?_⟩
            rintro e W' ⟨rfl, hb'⟩
            have HB' := Lib.hid hb'
            clear hb'
            gi_wp2_with fail
            have fin := HK.out (.int .i64 DX) W' HB'.out rfl
            simp only [putAll, Act.put, List.setIfInBounds_toArray, List.set_cons_succ, List.set_cons_zero] at fin
            exact fin
          · rintro vs W K hc hvl hw hK
            obtain ⟨x0, x1, x2, x3, x4, x5, x6, rfl⟩ := len7 hvl
            have HK := Lib.hid hK
            have HC := Lib.hid hc
            have HW := Lib.hid hw
            clear hK hc hw hvl
            simp only [putAll, Act.put, List.setIfInBounds_toArray, List.set_cons_succ, List.set_cons_zero]
            have rr := (HP2.out.grow HC.out).fn
            have d0 := rr.cell 0
            simp only [List.getElem?_cons_zero] at d0
            clear rr
            clear HW
            gi_wp2_with fail
            have fin := HK.out (.func (.func 68) #[] #[.pointer (some ⟨w.heap.size, 0, none⟩)]) W (Below.refl _ _) rfl
            simp only [putAll, Act.put, List.setIfInBounds_toArray, List.set_cons_succ, List.set_cons_zero] at fin
            exact fin
          · rintro vs W K hc hvl hw hK
            obtain ⟨x0, x1, x2, x3, x4, x5, x6, rfl⟩ := len7 hvl
            have HK := Lib.hid hK
            have HC := Lib.hid hc
            have HW := Lib.hid hw
            clear hK hc hw hvl
            simp only [putAll, Act.put, List.setIfInBounds_toArray, List.set_cons_succ, List.set_cons_zero]
            have rr := (HP2.out.grow HC.out).fa
            have d0 := rr.cell 0
            have d1 := rr.cell 1
            simp only [List.getElem?_cons_zero, List.getElem?_cons_succ] at d0 d1
            clear rr
            clear HW
            gi_wp2_with fail
            have fin := HK.out (.agg #[.int .i64 (f0 : Int), .int .i64 (f1 : Int)]) W (Below.refl _ _) rfl
            simp only [putAll, Act.put, List.setIfInBounds_toArray, List.set_cons_succ, List.set_cons_zero] at fin
            exact fin
          · rintro vs W K hc hvl hw hK
            obtain ⟨x0, x1, x2, x3, x4, x5, x6, rfl⟩ := len7 hvl
            have HK := Lib.hid hK
            have HC := Lib.hid hc
            have HW := Lib.hid hw
            clear hK hc hw hvl
            obtain rfl : x3 = .func (.func 68) #[] #[.pointer (some ⟨w.heap.size, 0, none⟩)] := box_get (HW.out ⟨3, .data⟩ (by simp) rfl) rfl
            obtain rfl : x4 = .agg #[.int .i64 (f0 : Int), .int .i64 (f1 : Int)] := box_get (HW.out ⟨4, .data⟩ (by simp) rfl) rfl
            simp only [putAll, Act.put, List.setIfInBounds_toArray, List.set_cons_succ, List.set_cons_zero]
            have hen := (show ∀ (args : Array Value) (W : World), (callFunc 68 args).run Try.prog W = .ok (.enter 68 args) W from enters_of Try.func68 (by kernel_rfl) rfl)
            clear HW
            gi_wp2_with fail
            refine ⟨trivial, (CallsIn.inRound l2 (callsIn_wide.2 (HDF.out W (HP2.out.grow HC.out).p (HP2.out.grow HC.out).bl))).mono ?_⟩
            rintro e W' ⟨rfl, hb'⟩
            have HB' := Lib.hid hb'
            clear hb'
            gi_wp2_with fail
            have fin := HK.out (.int .i64 DF) W' HB'.out rfl
            simp only [putAll, Act.put, List.setIfInBounds_toArray, List.set_cons_succ, List.set_cons_zero] at fin
            exact fin
          · rintro vs W K hc hvl hw hK
            obtain ⟨x0, x1, x2, x3, x4, x5, x6, rfl⟩ := len7 hvl
            have HK := Lib.hid hK
            have HC := Lib.hid hc
            have HW := Lib.hid hw
            clear hK hc hw hvl
            obtain rfl : x2 = .int .i64 DX := box_get (HW.out ⟨2, .data⟩ (by simp) rfl) rfl
            obtain rfl : x5 = .int .i64 DF := box_get (HW.out ⟨5, .data⟩ (by simp) rfl) rfl
            simp only [putAll, Act.put, List.setIfInBounds_toArray, List.set_cons_succ, List.set_cons_zero]
            have e1 := HFF.out.1
            have e2 := HFF.out.2
            clear HW
            gi_wp2_with fail
            have fin := HK.out (.bool F) W (Below.refl _ _) rfl
            simp only [putAll, Act.put, List.setIfInBounds_toArray, List.set_cons_succ, List.set_cons_zero] at fin
            exact fin
        case fin =>
          rintro vs W hJ
          obtain ⟨x0, x1, x2, x3, x4, x5, x6, rfl⟩ := len7 hJ.ln
          obtain rfl : x6 = .bool F := box_get (hJ.val 6 rfl) rfl
          have HC := Lib.hid hJ.bl
          clear hJ
          simp only [putAll, Act.put, List.setIfInBounds_toArray, List.set_cons_succ, List.set_cons_zero]
          have HP3 := Lib.hid (HP2.out.grow HC.out)
          have HX3 := Lib.hid (HX2.out.below HC.out HX2.out.lt)
          have KF3 := Lib.hid (KF2.out.trans (kf_below w2.heap.size HC.out))
          have KI3 := Lib.hid (KI2.out.trans (KeepsI.of_below (B := wr.heap.size) HC.out))
          clear HC
          cases F with
          | true =>
            have q := HP3.out.fa
            have c0 := q.cell 0
            have c1 := q.cell 1
            have z0 := frozen_of_row _ (w.heap.size + 1 + 1) 0 _ _ q
            have z1 := frozen_of_row _ (w.heap.size + 1 + 1) 1 _ _ q
            simp only [List.getElem?_cons_zero, List.getElem?_cons_succ] at c0 c1
            clear q
            have q := HX3.out
            have x0 := q.cell 0
            have x1 := q.cell 1
            simp only [List.getElem?_cons_zero, List.getElem?_cons_succ] at x0 x1
            clear q
            gi_wp2_with fail
            refine ⟨KF3.out.trans ((kf_set _ _ _ _ _ (by have := HLT.out; have := QS.out; omega)).trans (kf_set _ _ _ _ _ (by have := HLT.out; have := QS.out; omega))), KI3.out.trans ((ki_set _ _ _ _ _ (by have := HLT.out; omega)).trans (ki_set _ _ _ _ _ (by have := HLT.out; omega))), ?_⟩
            show PrI w w1.heap.size (.slice a n c) (nrK ps (pre ++ [(t0, t1)])) (faK ps (pre ++ [(t0, t1)])) _
            rw [HNN.out, HFN.out, if_neg (by simp), if_pos (by trivial)]
            exact HP3.out.setFa HBF.out (t0, t1)
          | false =>
            gi_wp2_with fail
            refine ⟨KF3.out, KI3.out, ?_⟩
            show PrI w w1.heap.size (.slice a n c) (nrK ps (pre ++ [(t0, t1)])) (faK ps (pre ++ [(t0, t1)])) _
            rw [HNN.out, HFN.out, if_neg (by simp), if_neg (by simp)]
            exact HP3.out
end Go.Proofs.Ytlemipnplgbckaa
