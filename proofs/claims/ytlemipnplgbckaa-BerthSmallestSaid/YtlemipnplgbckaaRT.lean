import Derived.Test.YtlemipnplgbckaaRW
import Derived.Test.YtlemipnplgbckaaSJ
import Derived.Laws.AppendOwn
import Derived.ChangeKeysEq
import Derived.Maps.RangeWalk
import Derived.Maps.OwnIn
import Derived.Maps.AppendAt
import Derived.RangeFuncNested
import Derived.RangeFuncBound
import Derived.RangeFuncCalls
import Derived.RangeFuncLeaves
import Derived.Shelf.Abstract
import Derived.Shelf.RegionOpen
import Derived.WalkKit
import Derived.WalkMore
import Derived.OwnWalkIn
import Derived.TacticsInMore
import Derived.LoopNIn
import Derived.LoopIn
import Derived.WalkSpells
import Derived.WalkLawsBesides
import Derived.BigQuiet
import Derived.Deep.QuietTactic
import Derived.Lib.Hide
import Derived.Deep.RegionHeld3
import Derived.StillTailTactics
import Derived.Deep.LoopGhost
import Derived.Maps.OwnSet
import Derived.Lib.IndexAny
import Derived.Sort.QuietThIn
import Derived.Sort.QuietTacIn
import Derived.Sort.BigQuietIn
import Derived.Laws.OwnMore
import Derived.DeepKeys4
import Derived.Maps.Views
import Derived.Maps.OwnOps
import Derived.Deep.DeepCutAuto
import Derived.Shelf.Bits.Mul64
import Derived.Shelf.LaysM
namespace Go.Proofs.Ytlemipnplgbckaa
open Go.RowKit Go.Shelf
attribute [local go_sem] Oper.semAt_some
theorem pre_mem {ps : List Pt} {i k : Nat} (hi : i < ps.length) (hk : k ≤ i) {c : Cir} (h : c ∈ rcL ps i ++ rcK ps i k) : c ∈ rcL ps ps.length := by
  rcases List.mem_append.1 h with h1 | h1
  · obtain ⟨a, ha, r⟩ := mem_rc.1 h1
    exact mem_rc.2 ⟨a, by omega, r⟩
  · unfold rcK rcJ thO at h1
    simp only [List.mem_flatMap, List.mem_range, List.mem_cons] at h1
    obtain ⟨t, ht, h | ⟨j, hj, h⟩⟩ := h1
    · exact mem_rc.2 ⟨i, hi, t, by omega, .inl h⟩
    · split at h
      · cases h
      · rename_i hd
        exact mem_rc.2 ⟨i, hi, t, by omega, .inr ⟨j, hj, hd, by simpa using h⟩⟩
theorem pre_mem2 {ps : List Pt} {i k j : Nat} (hi : i < ps.length) (hk : k < i) (hj : j ≤ k) {c : Cir} (h : c ∈ rcL ps i ++ rcK ps i k ++ (ovC (ptAt ps i) (ptAt ps k) :: rcJ ps i k j)) : c ∈ rcL ps ps.length := by
  rcases List.mem_append.1 h with h1 | h1
  · exact pre_mem hi (Nat.le_of_lt hk) h1
  · rcases List.mem_cons.1 h1 with h2 | h2
    · exact mem_rc.2 ⟨i, hi, k, hk, .inl h2⟩
    · unfold rcJ thO at h2
      simp only [List.mem_flatMap, List.mem_range] at h2
      obtain ⟨t, ht, h⟩ := h2
      split at h
      · cases h
      · rename_i hd
        exact mem_rc.2 ⟨i, hi, k, hk, .inr ⟨t, by omega, hd, by simpa using h⟩⟩
theorem one_small {ps : List Pt} (h : ps.length = 1) : smC ps = ovC (ptAt ps 0) (ptAt ps 0) := by
  have hne : ps ≠ [] := by intro e; rw [e] at h; simp at h
  rcases circL_cases (sm_spec hne).1 with ⟨i, j, hij, hj, e⟩ | ⟨i, j, k, h1, h2, h3, _⟩
  · rw [e, show i = 0 by omega, show j = 0 by omega]
  · omega
/-- the boxes of the search -/
structure RsI (w : World) (B : Cir) (wr : World) : Prop where
  bl : Below w.heap.size w wr
  r0 : Row wr w.heap.size 46 [.int .i64 0, .int .i64 0, .int .i64 0, .int .i64 0]
  r1 : Row wr (w.heap.size + 1) 46 [.int .i64 B.X, .int .i64 B.Y, .int .i64 B.D, .int .i64 B.R]
theorem RsI.grow {w W W' : World} {B : Cir} (h : RsI w B W) (hb : Below W.heap.size W W') : RsI w B W' :=
  ⟨Below.andThen h.bl hb (Nat.le_refl _), h.r0.below hb h.r0.lt, h.r1.below hb h.r1.lt⟩
theorem RsI.put {w W : World} {B M : Cir} (h : RsI w B W) : RsI w M ((((W.setCell ⟨w.heap.size + 1, 0, none⟩ (.int .i64 M.X)).setCell ⟨w.heap.size + 1, 1, none⟩ (.int .i64 M.Y)).setCell ⟨w.heap.size + 1, 2, none⟩ (.int .i64 M.D)).setCell ⟨w.heap.size + 1, 3, none⟩ (.int .i64 M.R)) := by
  have hne : w.heap.size ≠ w.heap.size + 1 := by omega
  refine ⟨(((h.bl.setCell (p := ⟨w.heap.size + 1, 0, none⟩) (Nat.le_succ _) _).setCell (p := ⟨w.heap.size + 1, 1, none⟩) (Nat.le_succ _) _).setCell (p := ⟨w.heap.size + 1, 2, none⟩) (Nat.le_succ _) _).setCell (p := ⟨w.heap.size + 1, 3, none⟩) (Nat.le_succ _) _, (((h.r0.other 0 _ hne).other 1 _ hne).other 2 _ hne).other 3 _ hne, ?_⟩
  have := (((h.r1.set 0 (.int .i64 M.X)).set 1 (.int .i64 M.Y)).set 2 (.int .i64 M.D)).set 3 (.int .i64 M.R)
  simpa using this
theorem step_eq {ps : List Pt} {f H E : Bool} {B M : Cir} (hH : holdB ps M = H) (hE : (H && (!f || decide (cmpC M.D M.R B.D B.R < 0))) = E) : stepS ps (f, B) M = (f || E, if E = true then M else B) := by
  unfold stepS
  rw [hH]
  have hc : cmpV M B = cmpC M.D M.R B.D B.R := rfl
  rw [hc, hE]
  cases E <;> cases f <;> simp
theorem step_eq2 {ps : List Pt} {f H E q : Bool} {B M : Cir} (hH : holdB ps M = H) (hE : (q && (H && (!f || decide (cmpC M.D M.R B.D B.R < 0)))) = E) : (if q = true then stepS ps (f, B) M else (f, B)) = (f || E, if E = true then M else B) := by
  cases q with
  | false =>
    simp only [Bool.false_and] at hE
    subst hE
    simp
  | true =>
    rw [if_pos rfl]
    exact step_eq hH (by simpa using hE)
theorem rcj_step (ps : List Pt) (cs : List Cir) (c : Cir) (i k j : Nat) (T : Cir) (q : Bool) (h2 : decide (thD (ptAt ps i) (ptAt ps k) (ptAt ps j) = 0) = !q) (h3 : q = true → T = thC (ptAt ps i) (ptAt ps k) (ptAt ps j)) :
    selF ps (cs ++ (c :: rcJ ps i k (j + 1))) = if q = true then stepS ps (selF ps (cs ++ (c :: rcJ ps i k j))) T else selF ps (cs ++ (c :: rcJ ps i k j)) := by
  rw [rcJ_next]
  unfold thO
  cases q with
  | false =>
    have h : thD (ptAt ps i) (ptAt ps k) (ptAt ps j) = 0 := by simpa using h2
    rw [if_pos h, List.append_nil]; simp
  | true =>
    have h : thD (ptAt ps i) (ptAt ps k) (ptAt ps j) ≠ 0 := by simpa using h2
    rw [if_neg h, ← h3 rfl, if_pos rfl, ← selF_snoc, List.append_assoc, List.cons_append]
set_option maxRecDepth 100000 in
set_option maxHeartbeats 8000000 in
theorem rSmallest_any (ps : List Pt) (v : Value) (w : World) (hv : SlP w v ps) (he : chkP ps = true) :
    Calls Try.prog 42 #[v] w fun e w' => e = .returned (smC ps).V ∧ Below w.heap.size w w' := by
  obtain ⟨⟨h1, hl⟩, hpb, hnd⟩ := chkP_iff.1 he
  have HHO := Lib.hid (fun (c : Cir) (hc : CirB c) (W : World) (hb : Below w.heap.size w W) => holds_any ps v c W (hv.grow hb) hl hpb hc)
  have HSM := Lib.hid (fun h2 : 2 ≤ ps.length => sel_small h2 hnd)
  have HONE := Lib.hid (fun h : ps.length = 1 => one_small h)
  obtain ⟨a, c, rfl, hc, hs⟩ := hv
  have HPB := Lib.hid hpb
  obtain ⟨n, hn⟩ : ∃ n, ps.length = n := ⟨_, rfl⟩
  have HN := Lib.hid hn
  rw [hn] at hl hc h1 HHO HSM HONE ⊢
  obtain ⟨g, o, rfl, hps⟩ : ∃ g o, a = some ⟨g, o, none⟩ ∧ PtsAt w g o ps := hs.resolve_left (fun e => by have := HN.out; rw [e] at this; simp at this; omega)
  have HPS := Lib.hid hps
  obtain ⟨bb, rr⟩ := box_start w 46 [.int .i64 0, .int .i64 0, .int .i64 0, .int .i64 0]
  clear hs hpb hn hnd he hps
  by_cases hone : n = 1
  · subst hone
    have BB := Lib.hid bb
    have RB := Lib.hid rr
    have HP0 := Lib.hid (fun W (hb : Below (w.alloc (.cells [.int .i64 0, .int .i64 0, .int .i64 0, .int .i64 0].toArray 46)).heap.size (w.alloc (.cells [.int .i64 0, .int .i64 0, .int .i64 0, .int .i64 0].toArray 46)) W) => pt_cell HPS.out (Below.andThen BB.out hb (Nat.le_refl _)) HN.out (show 0 < 1 by omega))
    have HB0 := Lib.hid (pt_bd HPB.out HN.out (show 0 < 1 by omega))
    have HE1 := Lib.hid (HONE.out rfl)
    clear bb rr HONE HSM HHO
    generalize ptAt ps 0 = pz at *
    obtain ⟨az, bz⟩ := pz
    dsimp only at HP0 HB0 HE1
    have HOV := Lib.hid (fun W : World => rOver_any az bz az bz W HB0.out.1 HB0.out.2 HB0.out.1 HB0.out.2)
    generalize ovC (az, bz) (az, bz) = M at *
    obtain ⟨m1, m2, m3, m4⟩ := M
    unfold Cir.V cirV at HOV
    dsimp only at HOV
    rw [HE1.out]
    obtain ⟨V, hV⟩ : ∃ V, V = w.alloc (.cells [.int .i64 0, .int .i64 0, .int .i64 0, .int .i64 0].toArray 46) := ⟨_, rfl⟩
    rw [← hV] at BB RB HP0
    go_enter Try.func42, Try.ntmps42
    go_wp2_with fail
    rw [← hV]
    clear hV
    refine (wpIn_wide (n := 4)).1 ?_
    refine wpIn_region_relcut 7 (by kernel_rfl) (by kernel_rfl) [14, 15, 16, 17, 18, 19, 20] [LitR (.slice (some ⟨g, o, none⟩) 1 c), LitR (.pointer (some ⟨g, o, none⟩)), LitR (.agg #[.int .i64 az, .int .i64 bz]), LitR (.slice (some ⟨g, o, none⟩) 1 c), LitR (.pointer (some ⟨g, o, none⟩)), LitR (.agg #[.int .i64 az, .int .i64 bz]), LitR (.agg #[.int .i64 m1, .int .i64 m2, .int .i64 m3, .int .i64 m4])] (List.forall_mem_cons.2 ⟨LitR.stab _, (List.forall_mem_cons.2 ⟨LitR.stab _, (List.forall_mem_cons.2 ⟨LitR.stab _, (List.forall_mem_cons.2 ⟨LitR.stab _, (List.forall_mem_cons.2 ⟨LitR.stab _, (List.forall_mem_cons.2 ⟨LitR.stab _, (List.forall_mem_cons.2 ⟨LitR.stab _, (fun _ h => nomatch h)⟩)⟩)⟩)⟩)⟩)⟩)⟩) ⟨_, (putAll_self _ _).symm, rfl⟩ ?steps ?fin
    case steps =>
      intro Q'
      simp only [relStepsIn, List.take_succ_cons, List.take_zero]
      refine ⟨?_, ?_, ?_, ?_, ?_, ?_, ?_, trivial⟩
      · rintro vs W K hc hvl hw hK
        obtain ⟨x0, x1, x2, x3, x4, x5, x6, rfl⟩ := len7 hvl
        have HK := Lib.hid hK
        have HC := Lib.hid hc
        have HW := Lib.hid hw
        clear hK hc hw hvl
        simp only [putAll, Act.put, List.setIfInBounds_toArray, List.set_cons_succ, List.set_cons_zero]
        clear HW
        gi_wp2_with fail
        have fin := HK.out (.slice (some ⟨g, o, none⟩) 1 c) W (Below.refl _ _) rfl
        simp only [putAll, Act.put, List.setIfInBounds_toArray, List.set_cons_succ, List.set_cons_zero] at fin
        exact fin
      · rintro vs W K hc hvl hw hK
        obtain ⟨x0, x1, x2, x3, x4, x5, x6, rfl⟩ := len7 hvl
        have HK := Lib.hid hK
        have HC := Lib.hid hc
        have HW := Lib.hid hw
        clear hK hc hw hvl
        have hd0 := HW.out ⟨0, .data⟩ (by simp) rfl
        obtain rfl : x0 = .slice (some ⟨g, o, none⟩) 1 c := rel_get hd0 rfl
        simp only [putAll, Act.put, List.setIfInBounds_toArray, List.set_cons_succ, List.set_cons_zero]
        clear HW hd0
        gi_wp2_with fail
        have fin := HK.out (.pointer (some ⟨g, o, none⟩)) W (Below.refl _ _) rfl
        simp only [putAll, Act.put, List.setIfInBounds_toArray, List.set_cons_succ, List.set_cons_zero] at fin
        exact fin
      · rintro vs W K hc hvl hw hK
        obtain ⟨x0, x1, x2, x3, x4, x5, x6, rfl⟩ := len7 hvl
        have HK := Lib.hid hK
        have HC := Lib.hid hc
        have HW := Lib.hid hw
        clear hK hc hw hvl
        have hd1 := HW.out ⟨1, .data⟩ (by simp) rfl
        obtain rfl : x1 = .pointer (some ⟨g, o, none⟩) := rel_get hd1 rfl
        simp only [putAll, Act.put, List.setIfInBounds_toArray, List.set_cons_succ, List.set_cons_zero]
        have d0 := (HP0.out W HC.out).1
        have d1 := (HP0.out W HC.out).2
        simp only [Nat.zero_mul, Nat.add_zero] at d0 d1
        clear HW hd1
        gi_wp2_with fail
        have fin := HK.out (.agg #[.int .i64 az, .int .i64 bz]) W (Below.refl _ _) rfl
        simp only [putAll, Act.put, List.setIfInBounds_toArray, List.set_cons_succ, List.set_cons_zero] at fin
        exact fin
      · rintro vs W K hc hvl hw hK
        obtain ⟨x0, x1, x2, x3, x4, x5, x6, rfl⟩ := len7 hvl
        have HK := Lib.hid hK
        have HC := Lib.hid hc
        have HW := Lib.hid hw
        clear hK hc hw hvl
        simp only [putAll, Act.put, List.setIfInBounds_toArray, List.set_cons_succ, List.set_cons_zero]
        clear HW
        gi_wp2_with fail
        have fin := HK.out (.slice (some ⟨g, o, none⟩) 1 c) W (Below.refl _ _) rfl
        simp only [putAll, Act.put, List.setIfInBounds_toArray, List.set_cons_succ, List.set_cons_zero] at fin
        exact fin
      · rintro vs W K hc hvl hw hK
        obtain ⟨x0, x1, x2, x3, x4, x5, x6, rfl⟩ := len7 hvl
        have HK := Lib.hid hK
        have HC := Lib.hid hc
        have HW := Lib.hid hw
        clear hK hc hw hvl
        have hd3 := HW.out ⟨3, .data⟩ (by simp) rfl
        obtain rfl : x3 = .slice (some ⟨g, o, none⟩) 1 c := rel_get hd3 rfl
        simp only [putAll, Act.put, List.setIfInBounds_toArray, List.set_cons_succ, List.set_cons_zero]
        clear HW hd3
        gi_wp2_with fail
        have fin := HK.out (.pointer (some ⟨g, o, none⟩)) W (Below.refl _ _) rfl
        simp only [putAll, Act.put, List.setIfInBounds_toArray, List.set_cons_succ, List.set_cons_zero] at fin
        exact fin
      · rintro vs W K hc hvl hw hK
        obtain ⟨x0, x1, x2, x3, x4, x5, x6, rfl⟩ := len7 hvl
        have HK := Lib.hid hK
        have HC := Lib.hid hc
        have HW := Lib.hid hw
        clear hK hc hw hvl
        have hd4 := HW.out ⟨4, .data⟩ (by simp) rfl
        obtain rfl : x4 = .pointer (some ⟨g, o, none⟩) := rel_get hd4 rfl
        simp only [putAll, Act.put, List.setIfInBounds_toArray, List.set_cons_succ, List.set_cons_zero]
        have d0 := (HP0.out W HC.out).1
        have d1 := (HP0.out W HC.out).2
        simp only [Nat.zero_mul, Nat.add_zero] at d0 d1
        clear HW hd4
        gi_wp2_with fail
        have fin := HK.out (.agg #[.int .i64 az, .int .i64 bz]) W (Below.refl _ _) rfl
        simp only [putAll, Act.put, List.setIfInBounds_toArray, List.set_cons_succ, List.set_cons_zero] at fin
        exact fin
      · rintro vs W K hc hvl hw hK
        obtain ⟨x0, x1, x2, x3, x4, x5, x6, rfl⟩ := len7 hvl
        have HK := Lib.hid hK
        have HC := Lib.hid hc
        have HW := Lib.hid hw
        clear hK hc hw hvl
        have hd2 := HW.out ⟨2, .data⟩ (by simp) rfl
        obtain rfl : x2 = .agg #[.int .i64 az, .int .i64 bz] := rel_get hd2 rfl
        have hd5 := HW.out ⟨5, .data⟩ (by simp) rfl
        obtain rfl : x5 = .agg #[.int .i64 az, .int .i64 bz] := rel_get hd5 rfl
        simp only [putAll, Act.put, List.setIfInBounds_toArray, List.set_cons_succ, List.set_cons_zero]
        clear HW hd2 hd5
        gi_wp2_with fail
        refine ⟨trivial, (callsIn_wide.2 (HOV.out W)).mono ?_⟩
        rintro e W' ⟨rfl, hb'⟩
        have HB' := Lib.hid hb'
        clear hb'
        gi_wp2_with fail
        have fin := HK.out (.agg #[.int .i64 m1, .int .i64 m2, .int .i64 m3, .int .i64 m4]) W' HB'.out rfl
        simp only [putAll, Act.put, List.setIfInBounds_toArray, List.set_cons_succ, List.set_cons_zero] at fin
        exact fin
    case fin =>
      intro vs W hc hvl hv
      obtain ⟨x0, x1, x2, x3, x4, x5, x6, rfl⟩ := len7 hvl
      have hd0 := hv 0 (by omega)
      obtain rfl : x0 = .slice (some ⟨g, o, none⟩) 1 c := rel_get hd0 rfl
      clear hd0
      have hd1 := hv 1 (by omega)
      obtain rfl : x1 = .pointer (some ⟨g, o, none⟩) := rel_get hd1 rfl
      clear hd1
      have hd2 := hv 2 (by omega)
      obtain rfl : x2 = .agg #[.int .i64 az, .int .i64 bz] := rel_get hd2 rfl
      clear hd2
      have hd3 := hv 3 (by omega)
      obtain rfl : x3 = .slice (some ⟨g, o, none⟩) 1 c := rel_get hd3 rfl
      clear hd3
      have hd4 := hv 4 (by omega)
      obtain rfl : x4 = .pointer (some ⟨g, o, none⟩) := rel_get hd4 rfl
      clear hd4
      have hd5 := hv 5 (by omega)
      obtain rfl : x5 = .agg #[.int .i64 az, .int .i64 bz] := rel_get hd5 rfl
      clear hd5
      have hd6 := hv 6 (by omega)
      obtain rfl : x6 = .agg #[.int .i64 m1, .int .i64 m2, .int .i64 m3, .int .i64 m4] := rel_get hd6 rfl
      clear hd6
      simp only [putAll, Act.put, List.setIfInBounds_toArray, List.set_cons_succ, List.set_cons_zero]
      have HC := Lib.hid hc
      clear hc hv hvl
      have RT := Lib.hid (RB.out.below HC.out RB.out.lt)
      have BW := Lib.hid (Below.andThen BB.out HC.out (Nat.le_refl _))
      have rT := RT.out
      have t0 := rT.cell 0
      have t1 := rT.cell 1
      have t2 := rT.cell 2
      have t3 := rT.cell 3
      have g0 := frozen_of_row _ w.heap.size 0 _ _ rT
      have g1 := frozen_of_row _ w.heap.size 1 _ _ rT
      have g2 := frozen_of_row _ w.heap.size 2 _ _ rT
      have g3 := frozen_of_row _ w.heap.size 3 _ _ rT
      simp only [List.getElem?_cons_zero, List.getElem?_cons_succ] at t0 t1 t2 t3
      clear rT HC
      gi_wp2_with fail
      go_wp2_with fail
      have hr := (((RT.out.set 0 (.int .i64 m1)).set 1 (.int .i64 m2)).set 2 (.int .i64 m3)).set 3 (.int .i64 m4)
      have v0 := hr.cell 0
      have v1 := hr.cell 1
      have v2 := hr.cell 2
      have v3 := hr.cell 3
      simp only [List.set_cons_zero, List.set_cons_succ, List.getElem?_cons_zero, List.getElem?_cons_succ] at v0 v1 v2 v3
      refine bodyPost_ret (v := .agg #[.int .i64 m1, .int .i64 m2, .int .i64 m3, .int .i64 m4]) (by simp [results, Try.results42, go_sem, v0, v1, v2, v3]) rfl ⟨rfl, ?_⟩
      exact (((BW.out.setCell (p := ⟨w.heap.size, 0, none⟩) (Nat.le_refl _) _).setCell (p := ⟨w.heap.size, 1, none⟩) (Nat.le_refl _) _).setCell (p := ⟨w.heap.size, 2, none⟩) (Nat.le_refl _) _).setCell (p := ⟨w.heap.size, 3, none⟩) (Nat.le_refl _) _
  · have h2 : 2 ≤ n := by omega
    have hne1 : ((n : Int) == 1) = false := by simp; omega
    have HNE := Lib.hid hne1
    obtain ⟨V, hV, r0, r1, bV, hsz⟩ := two_start w 46 46 [.int .i64 0, .int .i64 0, .int .i64 0, .int .i64 0] [.int .i64 0, .int .i64 0, .int .i64 0, .int .i64 0]
    have HSEL := Lib.hid (HSM.out h2)
    have HLT := Lib.hid r1.lt
    have R0 := Lib.hid r0
    have R1 := Lib.hid r1
    have BV := Lib.hid bV
    clear bb rr HONE HSM r0 r1 bV h2 hsz
    go_enter Try.func42, Try.ntmps42
    go_wp2_with fail
    rw [← hV]
    clear hV hone hne1
    go_loopw [5, 4] (fun iv fv wr => ∃ i : Nat, i ≤ n ∧ iv = .int .i64 (i : Int) ∧ fv = .bool (selF ps (rcL ps i)).1 ∧ Hid (RsI w (selF ps (rcL ps i)).2 wr)) (fun iv _ _ => (n - intOf iv).toNat)
    case atStart => exact ⟨0, by omega, rfl, by rw [rcL_zero]; rfl, Lib.hid ⟨BV.out, R0.out, by rw [rcL_zero]; exact R1.out⟩⟩
    case round =>
      rename World => wi
      obtain ⟨i, hi, rfl, rfl, HB⟩ := hrel
      have iw : IntKind.i64.wrap ((i : Int) + 1) = ((i + 1 : Nat) : Int) := by rw [i64_of _ (by omega) (by omega)]; omega
      by_cases hit : i < n
      · have hd : decide ((i : Int) < (n : Int)) = true := decide_eq_true (by omega)
        have hdn : decide (i < n) = true := decide_eq_true hit
        have HIT := Lib.hid hit
        go_wp2_with fail
        go_loopw [6, 4] (fun iv fv wr => ∃ k : Nat, k ≤ i ∧ iv = .int .i64 (k : Int) ∧ fv = .bool (selF ps (rcL ps i ++ rcK ps i k)).1 ∧ Hid (RsI w (selF ps (rcL ps i ++ rcK ps i k)).2 wr)) (fun iv _ _ => (i - intOf iv).toNat)
        case atStart => exact ⟨0, by omega, rfl, by rw [rcK_zero, List.append_nil], by rw [rcK_zero, List.append_nil]; exact HB⟩
        case round =>
          clear HB
          rename World => wk
          obtain ⟨k, hk, rfl, rfl, HB⟩ := hrel
          have kw : IntKind.i64.wrap ((k : Int) + 1) = ((k + 1 : Nat) : Int) := by rw [i64_of _ (by omega) (by omega)]; omega
          by_cases hkt : k < i
          · have hd2 : decide ((k : Int) < (i : Int)) = true := decide_eq_true (by omega)
            have hdn2 : decide (k < i) = true := decide_eq_true hkt
            have HKT := Lib.hid hkt
            have ni : (i : Int) < (n : Int) := by omega
            have nk : (k : Int) < (n : Int) := by omega
            have HNI := Lib.hid (And.intro ni nk)
            have HP0 := Lib.hid (fun W (hb : Below w.heap.size w W) => pt_cell HPS.out hb HN.out hit)
            have HP1 := Lib.hid (fun W (hb : Below w.heap.size w W) => pt_cell HPS.out hb HN.out (show k < n by omega))
            have d0 := pt_bd HPB.out HN.out hit
            have d1 := pt_bd HPB.out HN.out (show k < n by omega)
            have HD01 := Lib.hid (And.intro d0 d1)
            have HNXK := Lib.hid (rcK_next ps i k)
            have HSN := Lib.hid (selF_snoc ps (rcL ps i ++ rcK ps i k) (ovC (ptAt ps i) (ptAt ps k)))
            have HBST := Lib.hid (fun hf : (selF ps (rcL ps i ++ rcK ps i k)).1 = true => sel_bd HPB.out (cs := rcL ps i ++ rcK ps i k) (fun _ => pre_mem (by rw [HN.out]; exact hit) (Nat.le_of_lt hkt)) hf)
            have HCB := Lib.hid (ovC_bd d0 d1)
            have HHC := Lib.hid (fun W (hb : Below w.heap.size w W) => HHO.out (ovC (ptAt ps i) (ptAt ps k)) HCB.out W hb)
            obtain ⟨⟨f, B⟩, hS⟩ : ∃ s, selF ps (rcL ps i ++ rcK ps i k) = s := ⟨_, rfl⟩
            have HOV := Lib.hid (fun W : World => rOver_any (ptAt ps i).1 (ptAt ps i).2 (ptAt ps k).1 (ptAt ps k).2 W d0.1 d0.2 d1.1 d1.2)
            have HJ0 := Lib.hid (show rcL ps i ++ rcK ps i k ++ [ovC (ptAt ps i) (ptAt ps k)] = rcL ps i ++ rcK ps i k ++ (ovC (ptAt ps i) (ptAt ps k) :: rcJ ps i k 0) by rw [rcJ_zero])
            rw [hS] at HB HSN HBST ⊢
            dsimp only at HB HBST ⊢
            clear hS d0 d1 ni nk
            generalize hp0 : ptAt ps i = p0 at HOV HP0 HP1 HD01
            generalize hp1 : ptAt ps k = p1 at HOV HP0 HP1 HD01
            have HPI := Lib.hid (And.intro hp0 hp1)
            rw [hp0, hp1] at HSN HHC HCB
            clear hp0 hp1
            obtain ⟨a0, b0⟩ := p0
            obtain ⟨a1, b1⟩ := p1
            generalize hM : ovC (a0, b0) (a1, b1) = M at HOV HSN HHC HCB
            have HMO := Lib.hid hM
            clear hM
            obtain ⟨m1, m2, m3, m4⟩ := M
            obtain ⟨B1, B2, B3, B4⟩ := B
            unfold Cir.V cirV at HOV
            dsimp only at HOV HP0 HP1 HHC HD01
            have BWW := Lib.hid HB.out.bl
            go_wp2_with fail
            refine wp_region_box (by kernel_rfl) (by kernel_rfl) [32, 33, 34, 35, 36, 37, 38, 39, 40, 7, 1000] [(fun v => v = .slice (some ⟨g, o, none⟩) n c), (fun v => v = .int .i64 (i : Int)), (fun v => v = .pointer (some ⟨g, o + i * 2, none⟩)), (fun v => v = .agg #[.int .i64 a0, .int .i64 b0]), (fun v => v = .slice (some ⟨g, o, none⟩) n c), (fun v => v = .int .i64 (k : Int)), (fun v => v = .pointer (some ⟨g, o + k * 2, none⟩)), (fun v => v = .agg #[.int .i64 a1, .int .i64 b1]), (fun v => v = .agg #[.int .i64 m1, .int .i64 m2, .int .i64 m3, .int .i64 m4]), (fun _ => True), (fun _ => True)] [none, none, none, none, none, none, none, none, none, some (46, [.int .i64 0, .int .i64 0, .int .i64 0, .int .i64 0], [.int .i64 m1, .int .i64 m2, .int .i64 m3, .int .i64 m4]), none] [none, none, none, none, none, none, none, none, none, none, some 9] 11 rfl (by kernel_rfl) ?tr ⟨_, (putAll_self _ _).symm, rfl⟩ ?steps ?fin
            case tr =>
              rintro i v h
              rcases i with _ | _ | _ | _ | _ | _ | _ | _ | _ | _ | _ | i
              all_goals first | trivial | (exfalso; rcases h with h | h <;> simp at h)
            case steps =>
              simp only [boxSteps, Nat.reduceAdd, Nat.zero_add, List.getD_cons_succ, List.getD_cons_zero]
              refine ⟨?_, ?_, ?_, ?_, ?_, ?_, ?_, ?_, ?_, ?_, ?_, trivial⟩
              · rintro vs W K hc hvl hw hK
                obtain ⟨x0, x1, x2, x3, x4, x5, x6, x7, x8, x9, x10, rfl⟩ := len11 hvl
                have HK := Lib.hid hK
                have HC := Lib.hid hc
                have HW := Lib.hid hw
                clear hK hc hw hvl
                simp only [putAll, Act.put, List.setIfInBounds_toArray, List.set_cons_succ, List.set_cons_zero, List.set_nil]
                clear HW
                go_wp2_with fail
                have fin := HK.out (.slice (some ⟨g, o, none⟩) n c) W (Below.refl _ _) rfl
                simp only [putAll, Act.put, List.setIfInBounds_toArray, List.set_cons_succ, List.set_cons_zero, List.set_nil] at fin
                exact fin
              · rintro vs W K hc hvl hw hK
                obtain ⟨x0, x1, x2, x3, x4, x5, x6, x7, x8, x9, x10, rfl⟩ := len11 hvl
                have HK := Lib.hid hK
                have HC := Lib.hid hc
                have HW := Lib.hid hw
                clear hK hc hw hvl
                simp only [putAll, Act.put, List.setIfInBounds_toArray, List.set_cons_succ, List.set_cons_zero, List.set_nil]
                clear HW
                go_wp2_with fail
                have fin := HK.out (.int .i64 (i : Int)) W (Below.refl _ _) rfl
                simp only [putAll, Act.put, List.setIfInBounds_toArray, List.set_cons_succ, List.set_cons_zero, List.set_nil] at fin
                exact fin
              · rintro vs W K hc hvl hw hK
                obtain ⟨x0, x1, x2, x3, x4, x5, x6, x7, x8, x9, x10, rfl⟩ := len11 hvl
                have HK := Lib.hid hK
                have HC := Lib.hid hc
                have HW := Lib.hid hw
                clear hK hc hw hvl
                obtain rfl : x0 = .slice (some ⟨g, o, none⟩) n c := box_get (HW.out ⟨0, .data⟩ (by simp) rfl) rfl
                obtain rfl : x1 = .int .i64 (i : Int) := box_get (HW.out ⟨1, .data⟩ (by simp) rfl) rfl
                simp only [putAll, Act.put, List.setIfInBounds_toArray, List.set_cons_succ, List.set_cons_zero, List.set_nil]
                have hi1 := HNI.out.1
                clear HW
                go_wp2_with fail
                have fin := HK.out (.pointer (some ⟨g, o + i * 2, none⟩)) W (Below.refl _ _) rfl
                simp only [putAll, Act.put, List.setIfInBounds_toArray, List.set_cons_succ, List.set_cons_zero, List.set_nil] at fin
                exact fin
              · rintro vs W K hc hvl hw hK
                obtain ⟨x0, x1, x2, x3, x4, x5, x6, x7, x8, x9, x10, rfl⟩ := len11 hvl
                have HK := Lib.hid hK
                have HC := Lib.hid hc
                have HW := Lib.hid hw
                clear hK hc hw hvl
                obtain rfl : x2 = .pointer (some ⟨g, o + i * 2, none⟩) := box_get (HW.out ⟨2, .data⟩ (by simp) rfl) rfl
                simp only [putAll, Act.put, List.setIfInBounds_toArray, List.set_cons_succ, List.set_cons_zero, List.set_nil]
                have d0 := (HP0.out W (Below.andThen BWW.out HC.out (Nat.le_refl _))).1
                have d1 := (HP0.out W (Below.andThen BWW.out HC.out (Nat.le_refl _))).2
                clear HW
                go_wp2_with fail
                have fin := HK.out (.agg #[.int .i64 a0, .int .i64 b0]) W (Below.refl _ _) rfl
                simp only [putAll, Act.put, List.setIfInBounds_toArray, List.set_cons_succ, List.set_cons_zero, List.set_nil] at fin
                exact fin
              · rintro vs W K hc hvl hw hK
                obtain ⟨x0, x1, x2, x3, x4, x5, x6, x7, x8, x9, x10, rfl⟩ := len11 hvl
                have HK := Lib.hid hK
                have HC := Lib.hid hc
                have HW := Lib.hid hw
                clear hK hc hw hvl
                simp only [putAll, Act.put, List.setIfInBounds_toArray, List.set_cons_succ, List.set_cons_zero, List.set_nil]
                clear HW
                go_wp2_with fail
                have fin := HK.out (.slice (some ⟨g, o, none⟩) n c) W (Below.refl _ _) rfl
                simp only [putAll, Act.put, List.setIfInBounds_toArray, List.set_cons_succ, List.set_cons_zero, List.set_nil] at fin
                exact fin
              · rintro vs W K hc hvl hw hK
                obtain ⟨x0, x1, x2, x3, x4, x5, x6, x7, x8, x9, x10, rfl⟩ := len11 hvl
                have HK := Lib.hid hK
                have HC := Lib.hid hc
                have HW := Lib.hid hw
                clear hK hc hw hvl
                simp only [putAll, Act.put, List.setIfInBounds_toArray, List.set_cons_succ, List.set_cons_zero, List.set_nil]
                clear HW
                go_wp2_with fail
                have fin := HK.out (.int .i64 (k : Int)) W (Below.refl _ _) rfl
                simp only [putAll, Act.put, List.setIfInBounds_toArray, List.set_cons_succ, List.set_cons_zero, List.set_nil] at fin
                exact fin
              · rintro vs W K hc hvl hw hK
                obtain ⟨x0, x1, x2, x3, x4, x5, x6, x7, x8, x9, x10, rfl⟩ := len11 hvl
                have HK := Lib.hid hK
                have HC := Lib.hid hc
                have HW := Lib.hid hw
                clear hK hc hw hvl
                obtain rfl : x4 = .slice (some ⟨g, o, none⟩) n c := box_get (HW.out ⟨4, .data⟩ (by simp) rfl) rfl
                obtain rfl : x5 = .int .i64 (k : Int) := box_get (HW.out ⟨5, .data⟩ (by simp) rfl) rfl
                simp only [putAll, Act.put, List.setIfInBounds_toArray, List.set_cons_succ, List.set_cons_zero, List.set_nil]
                have hi1 := HNI.out.2
                clear HW
                go_wp2_with fail
                have fin := HK.out (.pointer (some ⟨g, o + k * 2, none⟩)) W (Below.refl _ _) rfl
                simp only [putAll, Act.put, List.setIfInBounds_toArray, List.set_cons_succ, List.set_cons_zero, List.set_nil] at fin
                exact fin
              · rintro vs W K hc hvl hw hK
                obtain ⟨x0, x1, x2, x3, x4, x5, x6, x7, x8, x9, x10, rfl⟩ := len11 hvl
                have HK := Lib.hid hK
                have HC := Lib.hid hc
                have HW := Lib.hid hw
                clear hK hc hw hvl
                obtain rfl : x6 = .pointer (some ⟨g, o + k * 2, none⟩) := box_get (HW.out ⟨6, .data⟩ (by simp) rfl) rfl
                simp only [putAll, Act.put, List.setIfInBounds_toArray, List.set_cons_succ, List.set_cons_zero, List.set_nil]
                have d0 := (HP1.out W (Below.andThen BWW.out HC.out (Nat.le_refl _))).1
                have d1 := (HP1.out W (Below.andThen BWW.out HC.out (Nat.le_refl _))).2
                clear HW
                go_wp2_with fail
                have fin := HK.out (.agg #[.int .i64 a1, .int .i64 b1]) W (Below.refl _ _) rfl
                simp only [putAll, Act.put, List.setIfInBounds_toArray, List.set_cons_succ, List.set_cons_zero, List.set_nil] at fin
                exact fin
              · rintro vs W K hc hvl hw hK
                obtain ⟨x0, x1, x2, x3, x4, x5, x6, x7, x8, x9, x10, rfl⟩ := len11 hvl
                have HK := Lib.hid hK
                have HC := Lib.hid hc
                have HW := Lib.hid hw
                clear hK hc hw hvl
                obtain rfl : x3 = .agg #[.int .i64 a0, .int .i64 b0] := box_get (HW.out ⟨3, .data⟩ (by simp) rfl) rfl
                obtain rfl : x7 = .agg #[.int .i64 a1, .int .i64 b1] := box_get (HW.out ⟨7, .data⟩ (by simp) rfl) rfl
                simp only [putAll, Act.put, List.setIfInBounds_toArray, List.set_cons_succ, List.set_cons_zero, List.set_nil]
                clear HW
                go_wp2_with fail
                refine (HOV.out W).mono ?_
                rintro e W' ⟨rfl, hb'⟩
                have HB' := Lib.hid hb'
                clear hb'
                go_wp2_with fail
                have fin := HK.out (.agg #[.int .i64 m1, .int .i64 m2, .int .i64 m3, .int .i64 m4]) W' HB'.out rfl
                simp only [putAll, Act.put, List.setIfInBounds_toArray, List.set_cons_succ, List.set_cons_zero, List.set_nil] at fin
                exact fin
              · rintro vs W K hc hvl hw hK
                obtain ⟨x0, x1, x2, x3, x4, x5, x6, x7, x8, x9, x10, rfl⟩ := len11 hvl
                have HK := Lib.hid hK
                have HC := Lib.hid hc
                have HW := Lib.hid hw
                clear hK hc hw hvl
                simp only [putAll, Act.put, List.setIfInBounds_toArray, List.set_cons_succ, List.set_cons_zero, List.set_nil]
                clear HW
                go_wp2_with fail
                have fin := HK.out
                simp only [putAll, Act.put, List.setIfInBounds_toArray, List.set_cons_succ, List.set_cons_zero, List.set_nil] at fin
                exact fin
              · rintro vs W K hc hvl hw b E z f hia hva hb0 hr hK
                cases hia
                obtain ⟨x0, x1, x2, x3, x4, x5, x6, x7, x8, x9, x10, rfl⟩ := len11 hvl
                have HK := Lib.hid hK
                have HC := Lib.hid hc
                have HW := Lib.hid hw
                clear hK hc hw hvl
                obtain rfl : x8 = .agg #[.int .i64 m1, .int .i64 m2, .int .i64 m3, .int .i64 m4] := box_get (HW.out ⟨8, .data⟩ (by simp) rfl) rfl
                obtain rfl : x9 = .pointer (some ⟨b, 0, none⟩) := Option.some.inj hva
                simp only [putAll, Act.put, List.setIfInBounds_toArray, List.set_cons_succ, List.set_cons_zero, List.set_nil]
                have kf0 := frozen_of_row W b 0 _ _ hr
                have kc0 : W.cell? ⟨b, 0, none⟩ = some (.int .i64 0) := hr.cell 0
                have kf1 := frozen_of_row W b 1 _ _ hr
                have kc1 : W.cell? ⟨b, 1, none⟩ = some (.int .i64 0) := hr.cell 1
                have kf2 := frozen_of_row W b 2 _ _ hr
                have kc2 : W.cell? ⟨b, 2, none⟩ = some (.int .i64 0) := hr.cell 2
                have kf3 := frozen_of_row W b 3 _ _ hr
                have kc3 : W.cell? ⟨b, 3, none⟩ = some (.int .i64 0) := hr.cell 3
                have HRW := Lib.hid hr
                clear HW hr hva
                go_wp2_with fail
                have fin := HK.out _ (show Row _ b 46 [.int .i64 m1, .int .i64 m2, .int .i64 m3, .int .i64 m4] from by simpa using (show Row _ b 46 _ from ((((HRW.out.set 0 (.int .i64 m1)).set 1 (.int .i64 m2)).set 2 (.int .i64 m3)).set 3 (.int .i64 m4)))) (grown_put (grown_put (grown_put (grown_put (grown_self W _)))))
                simp only [putAll, Act.put, List.setIfInBounds_toArray, List.set_cons_succ, List.set_cons_zero, List.set_nil] at fin
                exact fin
            case fin =>
              rintro vs W hJ
              obtain ⟨x0, x1, x2, x3, x4, x5, x6, x7, x8, x9, x10, rfl⟩ := len11 hJ.ln
              obtain ⟨b9, e9, hb9, hr9⟩ := hJ.box 9 _ _ _ rfl rfl
              obtain rfl : x9 = .pointer (some ⟨b9, 0, none⟩) := Option.some.inj e9
              replace hr9 : Row W b9 46 [.int .i64 m1, .int .i64 m2, .int .i64 m3, .int .i64 m4] := hr9
              have HR9 := Lib.hid hr9
              clear e9 hr9
              have HC := Lib.hid hJ.bl
              clear hJ
              simp only [putAll, Act.put, List.setIfInBounds_toArray, List.set_cons_succ, List.set_cons_zero, List.set_nil]
              have RM := Lib.hid HR9.out
              have RSI := Lib.hid (HB.out.grow HC.out)
              clear HR9 HC hb9 HB BWW
              have HRC := Lib.hid (fun (hf : f = true) (W : World) => rCompare_any m1 m2 m3 m4 B1 B2 B3 B4 W HCB.out.2.2.1.1 HCB.out.2.2.1.2 (HBST.out hf).2.2.1.1 (HBST.out hf).2.2.1.2 HCB.out.2.2.2.1 HCB.out.2.2.2.2 (HBST.out hf).2.2.2.1 (HBST.out hf).2.2.2.2)
              obtain ⟨H, hH⟩ : ∃ H, holdB ps ⟨m1, m2, m3, m4⟩ = H := ⟨_, rfl⟩
              rw [hH] at HHC
              obtain ⟨E, hE⟩ : ∃ E, (H && (!f || decide (cmpC m3 m4 B3 B4 < 0))) = E := ⟨_, rfl⟩
              have HEQ := Lib.hid hE
              have HST := Lib.hid (HSN.out.trans (step_eq (B := ⟨B1, B2, B3, B4⟩) (M := ⟨m1, m2, m3, m4⟩) hH hE))
              clear hH hE HSN HCB HBST HOV
              go_upto_region 12 with fail
              go_cut [53] (fun t wx => t = .bool E ∧ Hid (RsI w ⟨B1, B2, B3, B4⟩ wx ∧ Row wx b9 46 [.int .i64 m1, .int .i64 m2, .int .i64 m3, .int .i64 m4]))
              case first =>
                cases H with
                | false =>
                  have qq := RM.out
                  have k0 := qq.cell 0
                  have k1 := qq.cell 1
                  have k2 := qq.cell 2
                  have k3 := qq.cell 3
                  simp only [List.getElem?_cons_zero, List.getElem?_cons_succ] at k0 k1 k2 k3
                  clear qq
                  have hE : E = false := by rw [← HEQ.out]; rfl
                  subst hE
                  go_wp2_with fail
                  refine (HHC.out _ RSI.out.bl).mono ?_
                  rintro e w5 ⟨rfl, h5⟩
                  have RS5 := Lib.hid (RSI.out.grow h5)
                  have RM5 := Lib.hid (RM.out.below h5 RM.out.lt)
                  clear h5 k0 k1 k2 k3
                  go_wp2_with fail
                  go_meet
                  exact ⟨rfl, Lib.hid ⟨RS5.out, RM5.out⟩⟩
                | true =>
                  cases f with
                  | false =>
                    have qq := RM.out
                    have k0 := qq.cell 0
                    have k1 := qq.cell 1
                    have k2 := qq.cell 2
                    have k3 := qq.cell 3
                    simp only [List.getElem?_cons_zero, List.getElem?_cons_succ] at k0 k1 k2 k3
                    clear qq
                    have hE : E = true := by rw [← HEQ.out]; rfl
                    subst hE
                    go_wp2_with fail
                    refine (HHC.out _ RSI.out.bl).mono ?_
                    rintro e w5 ⟨rfl, h5⟩
                    have RS5 := Lib.hid (RSI.out.grow h5)
                    have RM5 := Lib.hid (RM.out.below h5 RM.out.lt)
                    clear h5 k0 k1 k2 k3
                    go_wp2_with fail
                    go_meet
                    exact ⟨rfl, Lib.hid ⟨RS5.out, RM5.out⟩⟩
                  | true =>
                    have qq := RM.out
                    have k0 := qq.cell 0
                    have k1 := qq.cell 1
                    have k2 := qq.cell 2
                    have k3 := qq.cell 3
                    simp only [List.getElem?_cons_zero, List.getElem?_cons_succ] at k0 k1 k2 k3
                    clear qq
                    have hE : E = decide (cmpC m3 m4 B3 B4 < 0) := by rw [← HEQ.out]; simp
                    go_wp2_with fail
                    refine (HHC.out _ RSI.out.bl).mono ?_
                    rintro e w5 ⟨rfl, h5⟩
                    have RS5 := Lib.hid (RSI.out.grow h5)
                    have RM5 := Lib.hid (RM.out.below h5 RM.out.lt)
                    clear h5 k0 k1 k2 k3
                    have qq := RM5.out
                    have k0 := qq.cell 0
                    have k1 := qq.cell 1
                    have k2 := qq.cell 2
                    have k3 := qq.cell 3
                    simp only [List.getElem?_cons_zero, List.getElem?_cons_succ] at k0 k1 k2 k3
                    clear qq
                    have qq := RS5.out.r1
                    have j0 := qq.cell 0
                    have j1 := qq.cell 1
                    have j2 := qq.cell 2
                    have j3 := qq.cell 3
                    simp only [List.getElem?_cons_zero, List.getElem?_cons_succ] at j0 j1 j2 j3
                    clear qq
                    have hE2 : decide (cmpC m3 m4 B3 B4 < 0) = E := hE.symm
                    have HE2 := Lib.hid hE2
                    clear hE hE2
                    generalize cmpC m3 m4 B3 B4 = cv at *
                    go_wp2_with fail
                    refine (HRC.out (by trivial) _).mono ?_
                    rintro e w6 ⟨rfl, h6⟩
                    have RS6 := Lib.hid (RS5.out.grow h6)
                    have RM6 := Lib.hid (RM5.out.below h6 RM5.out.lt)
                    have e2 := HE2.out
                    clear h6 k0 k1 k2 k3 j0 j1 j2 j3
                    go_wp2_with fail
                    go_meet
                    exact ⟨rfl, Lib.hid ⟨RS6.out, RM6.out⟩⟩
              case rest =>
                obtain ⟨rfl, hw5⟩ := hcut
                have HW5 := Lib.hid hw5.out
                clear hw5 RM RSI
                go_upto_if 53 with fail
                go_cut [4] (fun fv wx => fv = .bool (f || E) ∧ Hid (RsI w (if E = true then ⟨m1, m2, m3, m4⟩ else ⟨B1, B2, B3, B4⟩) wx))
                case first =>
                  cases E with
                  | false =>
                    go_wp2_with fail
                    go_meet
                    exact ⟨by rw [Bool.or_false], Lib.hid (by rw [if_neg (by simp)]; exact HW5.out.1)⟩
                  | true =>
                    have qq := HW5.out.2
                    have k0 := qq.cell 0
                    have k1 := qq.cell 1
                    have k2 := qq.cell 2
                    have k3 := qq.cell 3
                    simp only [List.getElem?_cons_zero, List.getElem?_cons_succ] at k0 k1 k2 k3
                    clear qq
                    have qq := HW5.out.1.r1
                    have j0 := qq.cell 0
                    have j1 := qq.cell 1
                    have j2 := qq.cell 2
                    have j3 := qq.cell 3
                    have zj0 := frozen_of_row _ (w.heap.size + 1) 0 _ _ qq
                    have zj1 := frozen_of_row _ (w.heap.size + 1) 1 _ _ qq
                    have zj2 := frozen_of_row _ (w.heap.size + 1) 2 _ _ qq
                    have zj3 := frozen_of_row _ (w.heap.size + 1) 3 _ _ qq
                    simp only [List.getElem?_cons_zero, List.getElem?_cons_succ] at j0 j1 j2 j3
                    clear qq
                    go_wp2_with fail
                    go_meet
                    exact ⟨by rw [Bool.or_true], Lib.hid (by rw [if_pos (by trivial)]; exact HW5.out.1.put (M := ⟨m1, m2, m3, m4⟩))⟩
                case rest =>
                  obtain ⟨rfl, HRS⟩ := hcut
                  clear HW5
                  have hfst : (selF ps (rcL ps i ++ rcK ps i k ++ (ovC (ptAt ps i) (ptAt ps k) :: rcJ ps i k 0))).1 = (f || E) := by rw [← HJ0.out, HPI.out.1, HPI.out.2, HMO.out, HST.out]
                  have hsnd : (selF ps (rcL ps i ++ rcK ps i k ++ (ovC (ptAt ps i) (ptAt ps k) :: rcJ ps i k 0))).2 = if E = true then ⟨m1, m2, m3, m4⟩ else ⟨B1, B2, B3, B4⟩ := by rw [← HJ0.out, HPI.out.1, HPI.out.2, HMO.out, HST.out]
                  have HS0 := Lib.hid (And.intro hfst hsnd)
                  clear hfst hsnd HJ0 HST HEQ HHC HRC
                  generalize (f || E) = f0 at *
                  go_wp2_with fail
                  go_loopw [8, 4] (fun iv fv wr => ∃ j : Nat, j ≤ k ∧ iv = .int .i64 (j : Int) ∧ fv = .bool (selF ps (rcL ps i ++ rcK ps i k ++ (ovC (ptAt ps i) (ptAt ps k) :: rcJ ps i k j))).1 ∧ Hid (RsI w (selF ps (rcL ps i ++ rcK ps i k ++ (ovC (ptAt ps i) (ptAt ps k) :: rcJ ps i k j))).2 wr)) (fun iv _ _ => (k - intOf iv).toNat)
                  case atStart => exact ⟨0, by omega, rfl, by rw [HS0.out.1], by rw [HS0.out.2]; exact HRS⟩
                  case round =>
                    clear HRS HS0 HMO
                    rename World => wj
                    obtain ⟨j, hj, rfl, rfl, HB⟩ := hrel
                    have jw : IntKind.i64.wrap ((j : Int) + 1) = ((j + 1 : Nat) : Int) := by rw [i64_of _ (by omega) (by omega)]; omega
                    by_cases hjt : j < k
                    · have hd3 : decide ((j : Int) < (k : Int)) = true := decide_eq_true (by omega)
                      have hdn3 : decide (j < k) = true := decide_eq_true hjt
                      have nj : (j : Int) < (n : Int) := by omega
                      have HNJ := Lib.hid nj
                      have HP2 := Lib.hid (fun W (hb : Below w.heap.size w W) => pt_cell HPS.out hb HN.out (show j < n by omega))
                      have d2 := pt_bd HPB.out HN.out (show j < n by omega)
                      have HBST := Lib.hid (fun hf : (selF ps (rcL ps i ++ rcK ps i k ++ (ovC (ptAt ps i) (ptAt ps k) :: rcJ ps i k j))).1 = true => sel_bd HPB.out (cs := rcL ps i ++ rcK ps i k ++ (ovC (ptAt ps i) (ptAt ps k) :: rcJ ps i k j)) (fun _ => pre_mem2 (by rw [HN.out]; exact HIT.out) HKT.out (Nat.le_of_lt hjt)) hf)
                      obtain ⟨T, q, hT1, hT2, hT3⟩ := thr_some (ptAt ps i) (ptAt ps k) (ptAt ps j)
                      have hcb : q = true → CirB T := fun h => by
                        rw [hT3 h]
                        have h5 : thD (ptAt ps i) (ptAt ps k) (ptAt ps j) ≠ 0 := by have := hT2; rw [h] at this; simpa using this
                        rw [HPI.out.1, HPI.out.2] at h5 ⊢
                        exact thC_bd HD01.out.1 HD01.out.2 d2 h5
                      have HCB := Lib.hid hcb
                      have HHQ := Lib.hid (fun (h : q = true) W (hb : Below w.heap.size w W) => HHO.out T (HCB.out h) W hb)
                      have HSN := Lib.hid (rcj_step ps (rcL ps i ++ rcK ps i k) (ovC (ptAt ps i) (ptAt ps k)) i k j T q hT2 hT3)
                      rw [HPI.out.1, HPI.out.2] at hT1
                      obtain ⟨⟨a2, b2⟩, hp2⟩ : ∃ p, ptAt ps j = p := ⟨_, rfl⟩
                      rw [hp2] at HP2 d2 hT1
                      have HTH := Lib.hid (fun W : World => rThrough_any a0 b0 a1 b1 a2 b2 W HD01.out.1.1 HD01.out.1.2 HD01.out.2.1 HD01.out.2.2 d2.1 d2.2)
                      rw [HPI.out.1, HPI.out.2, hp2] at hT2
                      rw [hT1, hT2, Bool.not_not] at HTH
                      obtain ⟨⟨fj, B⟩, hS⟩ : ∃ s, selF ps (rcL ps i ++ rcK ps i k ++ (ovC (ptAt ps i) (ptAt ps k) :: rcJ ps i k j)) = s := ⟨_, rfl⟩
                      rw [hS] at HB HBST HSN ⊢
                      obtain ⟨t1, t2, t3, t4⟩ := T
                      obtain ⟨B1, B2, B3, B4⟩ := B
                      unfold Cir.V cirV at HTH
                      dsimp only at HTH HP2 HHQ HB HBST ⊢
                      have BWW := Lib.hid HB.out.bl
                      clear hT1 hT2 hT3 hcb hp2 hS d2 nj
                      go_wp2_with fail
                      refine wp_region_box (by kernel_rfl) (by kernel_rfl) [61, 62, 63, 64, 65, 66, 67, 68, 69, 70, 71, 72, 73, 60, 74, 75, 9, 1000, 10] [(fun v => v = .slice (some ⟨g, o, none⟩) n c), (fun v => v = .int .i64 (i : Int)), (fun v => v = .pointer (some ⟨g, o + i * 2, none⟩)), (fun v => v = .agg #[.int .i64 a0, .int .i64 b0]), (fun v => v = .slice (some ⟨g, o, none⟩) n c), (fun v => v = .int .i64 (k : Int)), (fun v => v = .pointer (some ⟨g, o + k * 2, none⟩)), (fun v => v = .agg #[.int .i64 a1, .int .i64 b1]), (fun v => v = .slice (some ⟨g, o, none⟩) n c), (fun v => v = .int .i64 (j : Int)), (fun v => v = .pointer (some ⟨g, o + j * 2, none⟩)), (fun v => v = .agg #[.int .i64 a2, .int .i64 b2]), (fun v => v = .tuple #[.agg #[.int .i64 t1, .int .i64 t2, .int .i64 t3, .int .i64 t4], .bool q]), (fun v => v = .tuple #[.agg #[.int .i64 t1, .int .i64 t2, .int .i64 t3, .int .i64 t4], .bool q]), (fun v => v = .agg #[.int .i64 t1, .int .i64 t2, .int .i64 t3, .int .i64 t4]), (fun v => v = .bool q), (fun _ => True), (fun _ => True), (fun v => v = .bool q)] [none, none, none, none, none, none, none, none, none, none, none, none, none, none, none, none, some (46, [.int .i64 0, .int .i64 0, .int .i64 0, .int .i64 0], [.int .i64 t1, .int .i64 t2, .int .i64 t3, .int .i64 t4]), none, none] [none, none, none, none, none, none, none, none, none, none, none, none, none, none, none, none, none, some 16, none] 19 rfl (by kernel_rfl) ?tr ⟨_, (putAll_self _ _).symm, rfl⟩ ?steps ?fin
                      case tr =>
                        rintro i v h
                        rcases i with _ | _ | _ | _ | _ | _ | _ | _ | _ | _ | _ | _ | _ | _ | _ | _ | _ | _ | _ | i
                        all_goals first | trivial | (exfalso; rcases h with h | h <;> simp at h)
                      case steps =>
                        simp only [boxSteps, Nat.reduceAdd, Nat.zero_add, List.getD_cons_succ, List.getD_cons_zero]
                        refine ⟨?_, ?_, ?_, ?_, ?_, ?_, ?_, ?_, ?_, ?_, ?_, ?_, ?_, ?_, ?_, ?_, ?_, ?_, ?_, trivial⟩
                        · rintro vs W K hc hvl hw hK
                          obtain ⟨x0, x1, x2, x3, x4, x5, x6, x7, x8, x9, x10, x11, x12, x13, x14, x15, x16, x17, x18, rfl⟩ := len19 hvl
                          have HK := Lib.hid hK
                          have HC := Lib.hid hc
                          have HW := Lib.hid hw
                          clear hK hc hw hvl
                          simp only [putAll, Act.put, List.setIfInBounds_toArray, List.set_cons_succ, List.set_cons_zero, List.set_nil]
                          clear HW
                          go_wp2_with fail
                          have fin := HK.out (.slice (some ⟨g, o, none⟩) n c) W (Below.refl _ _) rfl
                          simp only [putAll, Act.put, List.setIfInBounds_toArray, List.set_cons_succ, List.set_cons_zero, List.set_nil] at fin
                          exact fin
                        · rintro vs W K hc hvl hw hK
                          obtain ⟨x0, x1, x2, x3, x4, x5, x6, x7, x8, x9, x10, x11, x12, x13, x14, x15, x16, x17, x18, rfl⟩ := len19 hvl
                          have HK := Lib.hid hK
                          have HC := Lib.hid hc
                          have HW := Lib.hid hw
                          clear hK hc hw hvl
                          simp only [putAll, Act.put, List.setIfInBounds_toArray, List.set_cons_succ, List.set_cons_zero, List.set_nil]
                          clear HW
                          go_wp2_with fail
                          have fin := HK.out (.int .i64 (i : Int)) W (Below.refl _ _) rfl
                          simp only [putAll, Act.put, List.setIfInBounds_toArray, List.set_cons_succ, List.set_cons_zero, List.set_nil] at fin
                          exact fin
                        · rintro vs W K hc hvl hw hK
                          obtain ⟨x0, x1, x2, x3, x4, x5, x6, x7, x8, x9, x10, x11, x12, x13, x14, x15, x16, x17, x18, rfl⟩ := len19 hvl
                          have HK := Lib.hid hK
                          have HC := Lib.hid hc
                          have HW := Lib.hid hw
                          clear hK hc hw hvl
                          obtain rfl : x0 = .slice (some ⟨g, o, none⟩) n c := box_get (HW.out ⟨0, .data⟩ (by simp) rfl) rfl
                          obtain rfl : x1 = .int .i64 (i : Int) := box_get (HW.out ⟨1, .data⟩ (by simp) rfl) rfl
                          simp only [putAll, Act.put, List.setIfInBounds_toArray, List.set_cons_succ, List.set_cons_zero, List.set_nil]
                          have hi1 := HNI.out.1
                          clear HW
                          go_wp2_with fail
                          have fin := HK.out (.pointer (some ⟨g, o + i * 2, none⟩)) W (Below.refl _ _) rfl
                          simp only [putAll, Act.put, List.setIfInBounds_toArray, List.set_cons_succ, List.set_cons_zero, List.set_nil] at fin
                          exact fin
                        · rintro vs W K hc hvl hw hK
                          obtain ⟨x0, x1, x2, x3, x4, x5, x6, x7, x8, x9, x10, x11, x12, x13, x14, x15, x16, x17, x18, rfl⟩ := len19 hvl
                          have HK := Lib.hid hK
                          have HC := Lib.hid hc
                          have HW := Lib.hid hw
                          clear hK hc hw hvl
                          obtain rfl : x2 = .pointer (some ⟨g, o + i * 2, none⟩) := box_get (HW.out ⟨2, .data⟩ (by simp) rfl) rfl
                          simp only [putAll, Act.put, List.setIfInBounds_toArray, List.set_cons_succ, List.set_cons_zero, List.set_nil]
                          have d0 := (HP0.out W (Below.andThen BWW.out HC.out (Nat.le_refl _))).1
                          have d1 := (HP0.out W (Below.andThen BWW.out HC.out (Nat.le_refl _))).2
                          clear HW
                          go_wp2_with fail
                          have fin := HK.out (.agg #[.int .i64 a0, .int .i64 b0]) W (Below.refl _ _) rfl
                          simp only [putAll, Act.put, List.setIfInBounds_toArray, List.set_cons_succ, List.set_cons_zero, List.set_nil] at fin
                          exact fin
                        · rintro vs W K hc hvl hw hK
                          obtain ⟨x0, x1, x2, x3, x4, x5, x6, x7, x8, x9, x10, x11, x12, x13, x14, x15, x16, x17, x18, rfl⟩ := len19 hvl
                          have HK := Lib.hid hK
                          have HC := Lib.hid hc
                          have HW := Lib.hid hw
                          clear hK hc hw hvl
                          simp only [putAll, Act.put, List.setIfInBounds_toArray, List.set_cons_succ, List.set_cons_zero, List.set_nil]
                          clear HW
                          go_wp2_with fail
                          have fin := HK.out (.slice (some ⟨g, o, none⟩) n c) W (Below.refl _ _) rfl
                          simp only [putAll, Act.put, List.setIfInBounds_toArray, List.set_cons_succ, List.set_cons_zero, List.set_nil] at fin
                          exact fin
                        · rintro vs W K hc hvl hw hK
                          obtain ⟨x0, x1, x2, x3, x4, x5, x6, x7, x8, x9, x10, x11, x12, x13, x14, x15, x16, x17, x18, rfl⟩ := len19 hvl
                          have HK := Lib.hid hK
                          have HC := Lib.hid hc
                          have HW := Lib.hid hw
                          clear hK hc hw hvl
                          simp only [putAll, Act.put, List.setIfInBounds_toArray, List.set_cons_succ, List.set_cons_zero, List.set_nil]
                          clear HW
                          go_wp2_with fail
                          have fin := HK.out (.int .i64 (k : Int)) W (Below.refl _ _) rfl
                          simp only [putAll, Act.put, List.setIfInBounds_toArray, List.set_cons_succ, List.set_cons_zero, List.set_nil] at fin
                          exact fin
                        · rintro vs W K hc hvl hw hK
                          obtain ⟨x0, x1, x2, x3, x4, x5, x6, x7, x8, x9, x10, x11, x12, x13, x14, x15, x16, x17, x18, rfl⟩ := len19 hvl
                          have HK := Lib.hid hK
                          have HC := Lib.hid hc
                          have HW := Lib.hid hw
                          clear hK hc hw hvl
                          obtain rfl : x4 = .slice (some ⟨g, o, none⟩) n c := box_get (HW.out ⟨4, .data⟩ (by simp) rfl) rfl
                          obtain rfl : x5 = .int .i64 (k : Int) := box_get (HW.out ⟨5, .data⟩ (by simp) rfl) rfl
                          simp only [putAll, Act.put, List.setIfInBounds_toArray, List.set_cons_succ, List.set_cons_zero, List.set_nil]
                          have hi1 := HNI.out.2
                          clear HW
                          go_wp2_with fail
                          have fin := HK.out (.pointer (some ⟨g, o + k * 2, none⟩)) W (Below.refl _ _) rfl
                          simp only [putAll, Act.put, List.setIfInBounds_toArray, List.set_cons_succ, List.set_cons_zero, List.set_nil] at fin
                          exact fin
                        · rintro vs W K hc hvl hw hK
                          obtain ⟨x0, x1, x2, x3, x4, x5, x6, x7, x8, x9, x10, x11, x12, x13, x14, x15, x16, x17, x18, rfl⟩ := len19 hvl
                          have HK := Lib.hid hK
                          have HC := Lib.hid hc
                          have HW := Lib.hid hw
                          clear hK hc hw hvl
                          obtain rfl : x6 = .pointer (some ⟨g, o + k * 2, none⟩) := box_get (HW.out ⟨6, .data⟩ (by simp) rfl) rfl
                          simp only [putAll, Act.put, List.setIfInBounds_toArray, List.set_cons_succ, List.set_cons_zero, List.set_nil]
                          have d0 := (HP1.out W (Below.andThen BWW.out HC.out (Nat.le_refl _))).1
                          have d1 := (HP1.out W (Below.andThen BWW.out HC.out (Nat.le_refl _))).2
                          clear HW
                          go_wp2_with fail
                          have fin := HK.out (.agg #[.int .i64 a1, .int .i64 b1]) W (Below.refl _ _) rfl
                          simp only [putAll, Act.put, List.setIfInBounds_toArray, List.set_cons_succ, List.set_cons_zero, List.set_nil] at fin
                          exact fin
                        · rintro vs W K hc hvl hw hK
                          obtain ⟨x0, x1, x2, x3, x4, x5, x6, x7, x8, x9, x10, x11, x12, x13, x14, x15, x16, x17, x18, rfl⟩ := len19 hvl
                          have HK := Lib.hid hK
                          have HC := Lib.hid hc
                          have HW := Lib.hid hw
                          clear hK hc hw hvl
                          simp only [putAll, Act.put, List.setIfInBounds_toArray, List.set_cons_succ, List.set_cons_zero, List.set_nil]
                          clear HW
                          go_wp2_with fail
                          have fin := HK.out (.slice (some ⟨g, o, none⟩) n c) W (Below.refl _ _) rfl
                          simp only [putAll, Act.put, List.setIfInBounds_toArray, List.set_cons_succ, List.set_cons_zero, List.set_nil] at fin
                          exact fin
                        · rintro vs W K hc hvl hw hK
                          obtain ⟨x0, x1, x2, x3, x4, x5, x6, x7, x8, x9, x10, x11, x12, x13, x14, x15, x16, x17, x18, rfl⟩ := len19 hvl
                          have HK := Lib.hid hK
                          have HC := Lib.hid hc
                          have HW := Lib.hid hw
                          clear hK hc hw hvl
                          simp only [putAll, Act.put, List.setIfInBounds_toArray, List.set_cons_succ, List.set_cons_zero, List.set_nil]
                          clear HW
                          go_wp2_with fail
                          have fin := HK.out (.int .i64 (j : Int)) W (Below.refl _ _) rfl
                          simp only [putAll, Act.put, List.setIfInBounds_toArray, List.set_cons_succ, List.set_cons_zero, List.set_nil] at fin
                          exact fin
                        · rintro vs W K hc hvl hw hK
                          obtain ⟨x0, x1, x2, x3, x4, x5, x6, x7, x8, x9, x10, x11, x12, x13, x14, x15, x16, x17, x18, rfl⟩ := len19 hvl
                          have HK := Lib.hid hK
                          have HC := Lib.hid hc
                          have HW := Lib.hid hw
                          clear hK hc hw hvl
                          obtain rfl : x8 = .slice (some ⟨g, o, none⟩) n c := box_get (HW.out ⟨8, .data⟩ (by simp) rfl) rfl
                          obtain rfl : x9 = .int .i64 (j : Int) := box_get (HW.out ⟨9, .data⟩ (by simp) rfl) rfl
                          simp only [putAll, Act.put, List.setIfInBounds_toArray, List.set_cons_succ, List.set_cons_zero, List.set_nil]
                          have hi1 := HNJ.out
                          clear HW
                          go_wp2_with fail
                          have fin := HK.out (.pointer (some ⟨g, o + j * 2, none⟩)) W (Below.refl _ _) rfl
                          simp only [putAll, Act.put, List.setIfInBounds_toArray, List.set_cons_succ, List.set_cons_zero, List.set_nil] at fin
                          exact fin
                        · rintro vs W K hc hvl hw hK
                          obtain ⟨x0, x1, x2, x3, x4, x5, x6, x7, x8, x9, x10, x11, x12, x13, x14, x15, x16, x17, x18, rfl⟩ := len19 hvl
                          have HK := Lib.hid hK
                          have HC := Lib.hid hc
                          have HW := Lib.hid hw
                          clear hK hc hw hvl
                          obtain rfl : x10 = .pointer (some ⟨g, o + j * 2, none⟩) := box_get (HW.out ⟨10, .data⟩ (by simp) rfl) rfl
                          simp only [putAll, Act.put, List.setIfInBounds_toArray, List.set_cons_succ, List.set_cons_zero, List.set_nil]
                          have d0 := (HP2.out W (Below.andThen BWW.out HC.out (Nat.le_refl _))).1
                          have d1 := (HP2.out W (Below.andThen BWW.out HC.out (Nat.le_refl _))).2
                          clear HW
                          go_wp2_with fail
                          have fin := HK.out (.agg #[.int .i64 a2, .int .i64 b2]) W (Below.refl _ _) rfl
                          simp only [putAll, Act.put, List.setIfInBounds_toArray, List.set_cons_succ, List.set_cons_zero, List.set_nil] at fin
                          exact fin
                        · rintro vs W K hc hvl hw hK
                          obtain ⟨x0, x1, x2, x3, x4, x5, x6, x7, x8, x9, x10, x11, x12, x13, x14, x15, x16, x17, x18, rfl⟩ := len19 hvl
                          have HK := Lib.hid hK
                          have HC := Lib.hid hc
                          have HW := Lib.hid hw
                          clear hK hc hw hvl
                          obtain rfl : x3 = .agg #[.int .i64 a0, .int .i64 b0] := box_get (HW.out ⟨3, .data⟩ (by simp) rfl) rfl
                          obtain rfl : x7 = .agg #[.int .i64 a1, .int .i64 b1] := box_get (HW.out ⟨7, .data⟩ (by simp) rfl) rfl
                          obtain rfl : x11 = .agg #[.int .i64 a2, .int .i64 b2] := box_get (HW.out ⟨11, .data⟩ (by simp) rfl) rfl
                          simp only [putAll, Act.put, List.setIfInBounds_toArray, List.set_cons_succ, List.set_cons_zero, List.set_nil]
                          clear HW
                          go_wp2_with fail
                          refine (HTH.out W).mono ?_
                          rintro e W' ⟨rfl, hb'⟩
                          have HB' := Lib.hid hb'
                          clear hb'
                          go_wp2_with fail
                          have fin := HK.out (.tuple #[.agg #[.int .i64 t1, .int .i64 t2, .int .i64 t3, .int .i64 t4], .bool q]) W' HB'.out rfl
                          simp only [putAll, Act.put, List.setIfInBounds_toArray, List.set_cons_succ, List.set_cons_zero, List.set_nil] at fin
                          exact fin
                        · rintro vs W K hc hvl hw hK
                          obtain ⟨x0, x1, x2, x3, x4, x5, x6, x7, x8, x9, x10, x11, x12, x13, x14, x15, x16, x17, x18, rfl⟩ := len19 hvl
                          have HK := Lib.hid hK
                          have HC := Lib.hid hc
                          have HW := Lib.hid hw
                          clear hK hc hw hvl
                          obtain rfl : x12 = .tuple #[.agg #[.int .i64 t1, .int .i64 t2, .int .i64 t3, .int .i64 t4], .bool q] := box_get (HW.out ⟨12, .data⟩ (by simp) rfl) rfl
                          simp only [putAll, Act.put, List.setIfInBounds_toArray, List.set_cons_succ, List.set_cons_zero, List.set_nil]
                          clear HW
                          go_wp2_with fail
                          have fin := HK.out (.tuple #[.agg #[.int .i64 t1, .int .i64 t2, .int .i64 t3, .int .i64 t4], .bool q]) W (Below.refl _ _) rfl
                          simp only [putAll, Act.put, List.setIfInBounds_toArray, List.set_cons_succ, List.set_cons_zero, List.set_nil] at fin
                          exact fin
                        · rintro vs W K hc hvl hw hK
                          obtain ⟨x0, x1, x2, x3, x4, x5, x6, x7, x8, x9, x10, x11, x12, x13, x14, x15, x16, x17, x18, rfl⟩ := len19 hvl
                          have HK := Lib.hid hK
                          have HC := Lib.hid hc
                          have HW := Lib.hid hw
                          clear hK hc hw hvl
                          obtain rfl : x13 = .tuple #[.agg #[.int .i64 t1, .int .i64 t2, .int .i64 t3, .int .i64 t4], .bool q] := box_get (HW.out ⟨13, .data⟩ (by simp) rfl) rfl
                          simp only [putAll, Act.put, List.setIfInBounds_toArray, List.set_cons_succ, List.set_cons_zero, List.set_nil]
                          clear HW
                          go_wp2_with fail
                          have fin := HK.out (.agg #[.int .i64 t1, .int .i64 t2, .int .i64 t3, .int .i64 t4]) W (Below.refl _ _) rfl
                          simp only [putAll, Act.put, List.setIfInBounds_toArray, List.set_cons_succ, List.set_cons_zero, List.set_nil] at fin
                          exact fin
                        · rintro vs W K hc hvl hw hK
                          obtain ⟨x0, x1, x2, x3, x4, x5, x6, x7, x8, x9, x10, x11, x12, x13, x14, x15, x16, x17, x18, rfl⟩ := len19 hvl
                          have HK := Lib.hid hK
                          have HC := Lib.hid hc
                          have HW := Lib.hid hw
                          clear hK hc hw hvl
                          obtain rfl : x13 = .tuple #[.agg #[.int .i64 t1, .int .i64 t2, .int .i64 t3, .int .i64 t4], .bool q] := box_get (HW.out ⟨13, .data⟩ (by simp) rfl) rfl
                          simp only [putAll, Act.put, List.setIfInBounds_toArray, List.set_cons_succ, List.set_cons_zero, List.set_nil]
                          clear HW
                          go_wp2_with fail
                          have fin := HK.out (.bool q) W (Below.refl _ _) rfl
                          simp only [putAll, Act.put, List.setIfInBounds_toArray, List.set_cons_succ, List.set_cons_zero, List.set_nil] at fin
                          exact fin
                        · rintro vs W K hc hvl hw hK
                          obtain ⟨x0, x1, x2, x3, x4, x5, x6, x7, x8, x9, x10, x11, x12, x13, x14, x15, x16, x17, x18, rfl⟩ := len19 hvl
                          have HK := Lib.hid hK
                          have HC := Lib.hid hc
                          have HW := Lib.hid hw
                          clear hK hc hw hvl
                          simp only [putAll, Act.put, List.setIfInBounds_toArray, List.set_cons_succ, List.set_cons_zero, List.set_nil]
                          clear HW
                          go_wp2_with fail
                          have fin := HK.out
                          simp only [putAll, Act.put, List.setIfInBounds_toArray, List.set_cons_succ, List.set_cons_zero, List.set_nil] at fin
                          exact fin
                        · rintro vs W K hc hvl hw b E z f hia hva hb0 hr hK
                          cases hia
                          obtain ⟨x0, x1, x2, x3, x4, x5, x6, x7, x8, x9, x10, x11, x12, x13, x14, x15, x16, x17, x18, rfl⟩ := len19 hvl
                          have HK := Lib.hid hK
                          have HC := Lib.hid hc
                          have HW := Lib.hid hw
                          clear hK hc hw hvl
                          obtain rfl : x14 = .agg #[.int .i64 t1, .int .i64 t2, .int .i64 t3, .int .i64 t4] := box_get (HW.out ⟨14, .data⟩ (by simp) rfl) rfl
                          obtain rfl : x16 = .pointer (some ⟨b, 0, none⟩) := Option.some.inj hva
                          simp only [putAll, Act.put, List.setIfInBounds_toArray, List.set_cons_succ, List.set_cons_zero, List.set_nil]
                          have kf0 := frozen_of_row W b 0 _ _ hr
                          have kc0 : W.cell? ⟨b, 0, none⟩ = some (.int .i64 0) := hr.cell 0
                          have kf1 := frozen_of_row W b 1 _ _ hr
                          have kc1 : W.cell? ⟨b, 1, none⟩ = some (.int .i64 0) := hr.cell 1
                          have kf2 := frozen_of_row W b 2 _ _ hr
                          have kc2 : W.cell? ⟨b, 2, none⟩ = some (.int .i64 0) := hr.cell 2
                          have kf3 := frozen_of_row W b 3 _ _ hr
                          have kc3 : W.cell? ⟨b, 3, none⟩ = some (.int .i64 0) := hr.cell 3
                          have HRW := Lib.hid hr
                          clear HW hr hva
                          go_wp2_with fail
                          have fin := HK.out _ (show Row _ b 46 [.int .i64 t1, .int .i64 t2, .int .i64 t3, .int .i64 t4] from by simpa using (show Row _ b 46 _ from ((((HRW.out.set 0 (.int .i64 t1)).set 1 (.int .i64 t2)).set 2 (.int .i64 t3)).set 3 (.int .i64 t4)))) (grown_put (grown_put (grown_put (grown_put (grown_self W _)))))
                          simp only [putAll, Act.put, List.setIfInBounds_toArray, List.set_cons_succ, List.set_cons_zero, List.set_nil] at fin
                          exact fin
                        · rintro vs W K hc hvl hw hK
                          obtain ⟨x0, x1, x2, x3, x4, x5, x6, x7, x8, x9, x10, x11, x12, x13, x14, x15, x16, x17, x18, rfl⟩ := len19 hvl
                          have HK := Lib.hid hK
                          have HC := Lib.hid hc
                          have HW := Lib.hid hw
                          clear hK hc hw hvl
                          obtain rfl : x15 = .bool q := box_get (HW.out ⟨15, .data⟩ (by simp) rfl) rfl
                          simp only [putAll, Act.put, List.setIfInBounds_toArray, List.set_cons_succ, List.set_cons_zero, List.set_nil]
                          clear HW
                          go_wp2_with fail
                          have fin := HK.out (.bool q) W (Below.refl _ _) rfl
                          simp only [putAll, Act.put, List.setIfInBounds_toArray, List.set_cons_succ, List.set_cons_zero, List.set_nil] at fin
                          exact fin
                      case fin =>
                        rintro vs W hJ
                        obtain ⟨x0, x1, x2, x3, x4, x5, x6, x7, x8, x9, x10, x11, x12, x13, x14, x15, x16, x17, x18, rfl⟩ := len19 hJ.ln
                        obtain rfl : x18 = .bool q := box_get (hJ.val 18 rfl) rfl
                        obtain ⟨b16, e16, hb16, hr16⟩ := hJ.box 16 _ _ _ rfl rfl
                        obtain rfl : x16 = .pointer (some ⟨b16, 0, none⟩) := Option.some.inj e16
                        replace hr16 : Row W b16 46 [.int .i64 t1, .int .i64 t2, .int .i64 t3, .int .i64 t4] := hr16
                        have HR16 := Lib.hid hr16
                        clear e16 hr16
                        have HC := Lib.hid hJ.bl
                        clear hJ
                        simp only [putAll, Act.put, List.setIfInBounds_toArray, List.set_cons_succ, List.set_cons_zero, List.set_nil]
                        have RM := Lib.hid HR16.out
                        have RSI := Lib.hid (HB.out.grow HC.out)
                        clear HR16 HC hb16 HB BWW
                        have HRQ := Lib.hid (fun (hq : q = true) (hf : fj = true) (W : World) => rCompare_any t1 t2 t3 t4 B1 B2 B3 B4 W (HCB.out hq).2.2.1.1 (HCB.out hq).2.2.1.2 (HBST.out hf).2.2.1.1 (HBST.out hf).2.2.1.2 (HCB.out hq).2.2.2.1 (HCB.out hq).2.2.2.2 (HBST.out hf).2.2.2.1 (HBST.out hf).2.2.2.2)
                        obtain ⟨H, hH⟩ : ∃ H, holdB ps ⟨t1, t2, t3, t4⟩ = H := ⟨_, rfl⟩
                        rw [hH] at HHQ
                        obtain ⟨E, hE⟩ : ∃ E, (q && (H && (!fj || decide (cmpC t3 t4 B3 B4 < 0)))) = E := ⟨_, rfl⟩
                        have HEQ := Lib.hid hE
                        have HST := Lib.hid (HSN.out.trans (step_eq2 (q := q) (B := ⟨B1, B2, B3, B4⟩) (M := ⟨t1, t2, t3, t4⟩) hH hE))
                        clear hH hE HSN HCB HBST HTH
                        go_upto_region 19 with fail
                        go_cut [91] (fun t wx => t = .bool E ∧ Hid (RsI w ⟨B1, B2, B3, B4⟩ wx ∧ Row wx b16 46 [.int .i64 t1, .int .i64 t2, .int .i64 t3, .int .i64 t4]))
                        case first =>
                          cases q with
                          | false =>
                            have hE : E = false := by rw [← HEQ.out]; rfl
                            subst hE
                            go_wp2_with fail
                            go_meet
                            exact ⟨rfl, Lib.hid ⟨RSI.out, RM.out⟩⟩
                          | true =>
                            have HHC := Lib.hid (HHQ.out (by trivial))
                            have HRC := Lib.hid (HRQ.out (by trivial))
                            cases H with
                            | false =>
                              have qq := RM.out
                              have k0 := qq.cell 0
                              have k1 := qq.cell 1
                              have k2 := qq.cell 2
                              have k3 := qq.cell 3
                              simp only [List.getElem?_cons_zero, List.getElem?_cons_succ] at k0 k1 k2 k3
                              clear qq
                              have hE : E = false := by rw [← HEQ.out]; rfl
                              subst hE
                              go_wp2_with fail
                              refine (HHC.out _ RSI.out.bl).mono ?_
                              rintro e w5 ⟨rfl, h5⟩
                              have RS5 := Lib.hid (RSI.out.grow h5)
                              have RM5 := Lib.hid (RM.out.below h5 RM.out.lt)
                              clear h5 k0 k1 k2 k3
                              go_wp2_with fail
                              go_meet
                              exact ⟨rfl, Lib.hid ⟨RS5.out, RM5.out⟩⟩
                            | true =>
                              cases fj with
                              | false =>
                                have qq := RM.out
                                have k0 := qq.cell 0
                                have k1 := qq.cell 1
                                have k2 := qq.cell 2
                                have k3 := qq.cell 3
                                simp only [List.getElem?_cons_zero, List.getElem?_cons_succ] at k0 k1 k2 k3
                                clear qq
                                have hE : E = true := by rw [← HEQ.out]; rfl
                                subst hE
                                go_wp2_with fail
                                refine (HHC.out _ RSI.out.bl).mono ?_
                                rintro e w5 ⟨rfl, h5⟩
                                have RS5 := Lib.hid (RSI.out.grow h5)
                                have RM5 := Lib.hid (RM.out.below h5 RM.out.lt)
                                clear h5 k0 k1 k2 k3
                                go_wp2_with fail
                                go_meet
                                exact ⟨rfl, Lib.hid ⟨RS5.out, RM5.out⟩⟩
                              | true =>
                                have qq := RM.out
                                have k0 := qq.cell 0
                                have k1 := qq.cell 1
                                have k2 := qq.cell 2
                                have k3 := qq.cell 3
                                simp only [List.getElem?_cons_zero, List.getElem?_cons_succ] at k0 k1 k2 k3
                                clear qq
                                have hE : E = decide (cmpC t3 t4 B3 B4 < 0) := by rw [← HEQ.out]; simp
                                go_wp2_with fail
                                refine (HHC.out _ RSI.out.bl).mono ?_
                                rintro e w5 ⟨rfl, h5⟩
                                have RS5 := Lib.hid (RSI.out.grow h5)
                                have RM5 := Lib.hid (RM.out.below h5 RM.out.lt)
                                clear h5 k0 k1 k2 k3
                                have qq := RM5.out
                                have k0 := qq.cell 0
                                have k1 := qq.cell 1
                                have k2 := qq.cell 2
                                have k3 := qq.cell 3
                                simp only [List.getElem?_cons_zero, List.getElem?_cons_succ] at k0 k1 k2 k3
                                clear qq
                                have qq := RS5.out.r1
                                have j0 := qq.cell 0
                                have j1 := qq.cell 1
                                have j2 := qq.cell 2
                                have j3 := qq.cell 3
                                simp only [List.getElem?_cons_zero, List.getElem?_cons_succ] at j0 j1 j2 j3
                                clear qq
                                have hE2 : decide (cmpC t3 t4 B3 B4 < 0) = E := hE.symm
                                have HE2 := Lib.hid hE2
                                clear hE hE2
                                generalize cmpC t3 t4 B3 B4 = cv at *
                                go_wp2_with fail
                                refine (HRC.out (by trivial) _).mono ?_
                                rintro e w6 ⟨rfl, h6⟩
                                have RS6 := Lib.hid (RS5.out.grow h6)
                                have RM6 := Lib.hid (RM5.out.below h6 RM5.out.lt)
                                have e2 := HE2.out
                                clear h6 k0 k1 k2 k3 j0 j1 j2 j3
                                go_wp2_with fail
                                go_meet
                                exact ⟨rfl, Lib.hid ⟨RS6.out, RM6.out⟩⟩
                        case rest =>
                          obtain ⟨rfl, hw5⟩ := hcut
                          have HW5 := Lib.hid hw5.out
                          clear hw5 RM RSI
                          cases E with
                          | false =>
                            have hs1 := HST.out
                            rw [Bool.or_false, if_neg (by simp)] at hs1
                            have HS1 := Lib.hid hs1
                            clear hs1 HST HEQ HHQ HRQ
                            go_wp2_with fail
                            exact ⟨⟨j + 1, by omega, rfl, by rw [HS1.out], by rw [HS1.out]; exact Lib.hid HW5.out.1⟩, by simp [intOf]; omega⟩
                          | true =>
                            have qq := HW5.out.2
                            have k0 := qq.cell 0
                            have k1 := qq.cell 1
                            have k2 := qq.cell 2
                            have k3 := qq.cell 3
                            simp only [List.getElem?_cons_zero, List.getElem?_cons_succ] at k0 k1 k2 k3
                            clear qq
                            have qq := HW5.out.1.r1
                            have j0 := qq.cell 0
                            have j1 := qq.cell 1
                            have j2 := qq.cell 2
                            have j3 := qq.cell 3
                            have zj0 := frozen_of_row _ (w.heap.size + 1) 0 _ _ qq
                            have zj1 := frozen_of_row _ (w.heap.size + 1) 1 _ _ qq
                            have zj2 := frozen_of_row _ (w.heap.size + 1) 2 _ _ qq
                            have zj3 := frozen_of_row _ (w.heap.size + 1) 3 _ _ qq
                            simp only [List.getElem?_cons_zero, List.getElem?_cons_succ] at j0 j1 j2 j3
                            clear qq
                            have hs1 := HST.out
                            rw [Bool.or_true, if_pos (by trivial)] at hs1
                            have HS1 := Lib.hid hs1
                            clear hs1 HST HEQ HHQ HRQ
                            go_wp2_with fail
                            exact ⟨⟨j + 1, by omega, rfl, by rw [HS1.out], by rw [HS1.out]; exact Lib.hid (HW5.out.1.put (M := ⟨t1, t2, t3, t4⟩))⟩, by simp [intOf]; omega⟩
                    · have hd3 : decide ((j : Int) < (k : Int)) = false := decide_eq_false (by omega)
                      have hdn3 : decide (j < k) = false := decide_eq_false hjt
                      obtain rfl : j = k := by omega
                      have HNX := Lib.hid (show rcL ps i ++ rcK ps i (j + 1) = rcL ps i ++ rcK ps i j ++ (ovC (ptAt ps i) (ptAt ps j) :: rcJ ps i j j) by rw [HNXK.out, List.append_assoc])
                      rw [← HNX.out] at HB ⊢
                      skip
                      obtain ⟨f2, hf2⟩ : ∃ b, (selF ps (rcL ps i ++ rcK ps i (j + 1))).1 = b := ⟨_, rfl⟩
                      have HF2 := Lib.hid hf2
                      rw [hf2]
                      clear hf2
                      go_wp2_with fail
                      exact ⟨⟨j + 1, by omega, rfl, by rw [HF2.out], HB⟩, by simp [intOf]; omega⟩
          · have hd2 : decide ((k : Int) < (i : Int)) = false := decide_eq_false (by omega)
            have hdn2 : decide (k < i) = false := decide_eq_false hkt
            obtain rfl : k = i := by omega
            rw [← rcL_next] at HB ⊢
            obtain ⟨f2, hf2⟩ : ∃ b, (selF ps (rcL ps (k + 1))).1 = b := ⟨_, rfl⟩
            have HF2 := Lib.hid hf2
            rw [hf2]
            clear hf2
            go_wp2_with fail
            exact ⟨⟨k + 1, by omega, rfl, by rw [HF2.out], HB⟩, by simp [intOf]; omega⟩
      · have hd : decide ((i : Int) < (n : Int)) = false := decide_eq_false (by omega)
        have hdn : decide (i < n) = false := decide_eq_false hit
        obtain rfl : i = n := by omega
        have HSS := HSEL.out.2
        rw [HSS] at HB
        obtain ⟨M, hM⟩ : ∃ M, smC ps = M := ⟨_, rfl⟩
        have HM := Lib.hid hM
        rw [hM] at HB
        obtain ⟨m1, m2, m3, m4⟩ := M
        have rT := HB.out.r0
        have t0 := rT.cell 0
        have t1 := rT.cell 1
        have t2 := rT.cell 2
        have t3 := rT.cell 3
        have g0 := frozen_of_row _ w.heap.size 0 _ _ rT
        have g1 := frozen_of_row _ w.heap.size 1 _ _ rT
        have g2 := frozen_of_row _ w.heap.size 2 _ _ rT
        have g3 := frozen_of_row _ w.heap.size 3 _ _ rT
        have sT := HB.out.r1
        have s0 := sT.cell 0
        have s1 := sT.cell 1
        have s2 := sT.cell 2
        have s3 := sT.cell 3
        simp only [List.getElem?_cons_zero, List.getElem?_cons_succ] at t0 t1 t2 t3 s0 s1 s2 s3
        clear rT sT HSS hM
        generalize (selF ps (rcL ps i)).1 = f9 at *
        go_wp2_with fail
        have hr := (((HB.out.r0.set 0 (.int .i64 m1)).set 1 (.int .i64 m2)).set 2 (.int .i64 m3)).set 3 (.int .i64 m4)
        have v0 := hr.cell 0
        have v1 := hr.cell 1
        have v2 := hr.cell 2
        have v3 := hr.cell 3
        simp only [List.set_cons_zero, List.set_cons_succ, List.getElem?_cons_zero, List.getElem?_cons_succ] at v0 v1 v2 v3
        refine bodyPost_ret (v := .agg #[.int .i64 m1, .int .i64 m2, .int .i64 m3, .int .i64 m4]) (by simp [results, Try.results42, go_sem, v0, v1, v2, v3]) rfl ⟨by rw [HM.out]; rfl, ?_⟩
        exact (((HB.out.bl.setCell (p := ⟨w.heap.size, 0, none⟩) (Nat.le_refl _) _).setCell (p := ⟨w.heap.size, 1, none⟩) (Nat.le_refl _) _).setCell (p := ⟨w.heap.size, 2, none⟩) (Nat.le_refl _) _).setCell (p := ⟨w.heap.size, 3, none⟩) (Nat.le_refl _) _
end Go.Proofs.Ytlemipnplgbckaa
