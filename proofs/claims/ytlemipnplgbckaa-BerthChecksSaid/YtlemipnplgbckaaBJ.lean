import Derived.Test.YtlemipnplgbckaaBI
import Derived.Laws.AppendOwn
import Derived.ChangeKeysEq
import Derived.Maps.RangeWalk
import Derived.Maps.OwnIn
import Derived.Maps.AppendAt
import Derived.RangeFuncNested
import Derived.RangeFuncBound
import Derived.RangeFuncCalls
import Derived.RangeFuncLeaves
import Derived.Shelf.Abstract
import Derived.Shelf.RegionOpen
import Derived.WalkKit
import Derived.WalkMore
import Derived.OwnWalkIn
import Derived.TacticsInMore
import Derived.LoopNIn
import Derived.LoopIn
import Derived.WalkSpells
import Derived.WalkLawsBesides
import Derived.BigQuiet
import Derived.Deep.QuietTactic
import Derived.Lib.Hide
import Derived.Deep.RegionHeld3
import Derived.StillTailTactics
import Derived.Deep.LoopGhost
import Derived.Maps.OwnSet
import Derived.Lib.IndexAny
import Derived.Sort.QuietThIn
import Derived.Sort.QuietTacIn
import Derived.Sort.BigQuietIn
import Derived.Laws.OwnMore
import Derived.DeepKeys4
import Derived.Maps.Views
import Derived.Maps.OwnOps
import Derived.Laws.OwnMore
import Derived.Deep.DeepCutAuto
import Derived.ChangeKeysEq
namespace Go.Proofs.Ytlemipnplgbckaa
open Go.RowKit Go.Shelf
attribute [local go_sem] Oper.semAt_some
def SlPV (ps : List Pt) : Value → World → Prop := fun v W => SlP W v ps
theorem SlPV.stab (ps : List Pt) : ∀ (v : Value) (W W' : World), SlPV ps v W → Below W.heap.size W W' → SlPV ps v W' := fun _ _ _ h hb => SlP.grow h hb
/-- points -/
def chkP (ps : List Pt) : Bool := decide (1 ≤ ps.length) && decide (ps.length ≤ 12) && ps.all okP && decide ps.Nodup
theorem chkP_iff {ps : List Pt} : chkP ps = true ↔ (1 ≤ ps.length ∧ ps.length ≤ 12) ∧ (∀ p ∈ ps, Bd 20 p.1 ∧ Bd 20 p.2) ∧ ps.Nodup := by
  unfold chkP
  simp only [Bool.and_eq_true, decide_eq_true_eq, List.all_eq_true, okP_iff]
  exact ⟨fun ⟨⟨h1, h2⟩, h3⟩ => ⟨h1, h2, h3⟩, fun ⟨h1, h2, h3⟩ => ⟨⟨h1, h2⟩, h3⟩⟩
def errP (ps : List Pt) : Int := if chkP ps = true then 0 else 40
theorem slp_one (w : World) (x y : Int) : SlP (w.alloc (.cells #[.int .i64 x, .int .i64 y] 28)) (.slice (some ⟨w.heap.size, 0, none⟩) 1 1) [(x, y)] := by
  refine ⟨_, 1, rfl, Nat.le_refl _, .inr ⟨_, 0, rfl, by simp, fun i hi => ?_, fun i hi => ?_⟩⟩
  · have : i = 0 := by simp at hi; omega
    subst this; rw [cell_al, if_pos rfl]; rfl
  · have : i = 0 := by simp at hi; omega
    subst this; rw [cell_al, if_pos rfl]; rfl
theorem chk_bad {ps : List Pt} {k : Nat} (h : k < ps.length) (hb : okP ps[k] = false ∨ ps[k] ∈ ps.take k) : errP ps = 40 := by
  unfold errP
  rw [if_neg]
  intro hc
  obtain ⟨_, h2, h3⟩ := chkP_iff.1 hc
  rcases hb with hb | hb
  · have := okP_iff.2 (h2 _ (List.getElem_mem h))
    rw [hb] at this; cases this
  · have hs : ps.take (k + 1) = ps.take k ++ [ps[k]] := List.take_succ_eq_append_getElem h
    have hn : (ps.take (k + 1)).Nodup := h3.sublist (List.take_sublist _ _)
    rw [hs, List.nodup_append] at hn
    exact hn.2.2 _ hb _ (by simp) rfl
set_option maxRecDepth 100000 in
set_option maxHeartbeats 1000000 in
theorem Check_any (ps : List Pt) (v : Value) (w : World) (hv : SlP w v ps) (hl : ps.length ≤ 1000000) :
    Calls Try.prog 17 #[v] w fun e w' => e = .returned (.int .i64 (errP ps)) ∧ Below w.heap.size w w' := by
  obtain ⟨a, c, rfl, hc, hs⟩ := hv
  have HS := Lib.hid hs
  obtain ⟨E, hE⟩ : ∃ E : Int, errP ps = E := ⟨_, rfl⟩
  rw [hE]
  have HE := Lib.hid hE
  have HBAD := Lib.hid (fun k h hb => (hE ▸ chk_bad (ps := ps) (k := k) h hb : E = 40))
  clear hs hE
  by_cases hlen : 1 ≤ ps.length ∧ ps.length ≤ 12
  · have d1 : decide ((ps.length : Int) < 1) = false := decide_eq_false (by omega)
    have d2 : decide (12 < (ps.length : Int)) = false := decide_eq_false (by omega)
    go_enter Try.func17, Try.ntmps17
    go_wp2_with fail
    go_loopw [15] (fun iv wr => ∃ k : Nat, k ≤ ps.length ∧ iv = .int .i64 (k : Int) ∧ Hid ((∀ p ∈ ps.take k, okP p = true) ∧ (ps.take k).Nodup ∧ Below w.heap.size w wr)) (fun iv _ => (ps.length - intOf iv).toNat)
    case atStart => exact ⟨0, by omega, rfl, Lib.hid ⟨by simp, by simp, Below.refl _ _⟩⟩
    case round =>
      obtain ⟨k, hk, rfl, HB⟩ := hrel
      have kw : IntKind.i64.wrap ((k : Int) + 1) = ((k + 1 : Nat) : Int) := by rw [i64_of _ (by omega) (by omega)]; omega
      by_cases hlt : k < ps.length
      · have hd : decide ((k : Int) < (ps.length : Int)) = true := decide_eq_true (by omega)
        have hdn : decide (k < ps.length) = true := decide_eq_true hlt
        obtain ⟨g, o, rfl, hps⟩ : ∃ g o, a = some ⟨g, o, none⟩ ∧ PtsAt w g o ps := HS.out.resolve_left (fun e => by rw [e] at hlt; simp at hlt)
        have hp2 : PtsAt wr g o ps := hps.below HB.out.2.2 hps.lt
        have k0 := hp2.x k hlt
        have k1 := hp2.y k hlt
        have HTS := Lib.hid (show ps.take (k + 1) = ps.take k ++ [ps[k]] from List.take_succ_eq_append_getElem hlt)
        have HSL := Lib.hid (show SlP wr (.slice (some ⟨g, o, none⟩) k c) (ps.take k) from ⟨_, c, by rw [List.length_take, Nat.min_eq_left hk], by rw [List.length_take]; omega, .inr ⟨g, o, rfl, hp2.lt, fun i hi => by
          rw [List.length_take] at hi
          rw [List.getElem_take]; exact hp2.x i (by omega), fun i hi => by
          rw [List.length_take] at hi
          rw [List.getElem_take]; exact hp2.y i (by omega)⟩⟩)
        have hkc : k ≤ c := by omega
        have HBK := Lib.hid (HBAD.out k hlt)
        clear hps hp2
        generalize ps[k] = pk at *
        obtain ⟨x, y⟩ := pk
        dsimp only at k0 k1
        have HCK := Lib.hid (fun (v : Value) (W : World) (hv : SlP W v [(x, y)]) => checkPairs_any [(x, y)] v W hv (by simp))
        obtain ⟨ok, hok⟩ : ∃ ok, okP (x, y) = ok := ⟨_, rfl⟩
        have HOK := Lib.hid hok
        simp only [List.all_cons, List.all_nil, Bool.and_true, hok] at HCK
        have HCO := Lib.hid (fun (W : World) (hb : Below wr.heap.size wr W) => contains_any (ps.take k) _ x y W (HSL.out.grow hb) (by rw [List.length_take]; omega))
        obtain ⟨inn, hinn⟩ : ∃ inn, decide ((x, y) ∈ ps.take k) = inn := ⟨_, rfl⟩
        rw [hinn] at HCO
        have HIN := Lib.hid hinn
        clear hok hinn
        go_wp2_with fail
        have rB := Row.new wr 28 [.int .i64 x, .int .i64 y]
        have bB := Below.al (Below.refl wr.heap.size wr) (Nat.le_refl _) (.cells #[.int .i64 x, .int .i64 y] 28)
        have RB := Lib.hid rB
        have BB := Lib.hid bB
        clear rB bB k0 k1
        obtain ⟨V, hV⟩ : ∃ V, V = wr.alloc (.cells #[.int .i64 x, .int .i64 y] 28) := ⟨_, rfl⟩
        rw [← hV] at RB BB ⊢
        clear hV
        cases ok with
        | false =>
          simp only [Bool.false_eq_true, if_false] at HCK
          refine wp_region_rel (by kernel_rfl) (by kernel_rfl) [20, 21, 22, 23, 24, 25, 26, 27, 28, 29, 30] [LitR (.agg #[.int .i64 x, .int .i64 y]), (SlPV [(x, y)]), LitR (.int .i64 1), LitR (.bool true), LitR (.bool true), LitR (undef), LitR (undef), LitR (undef), LitR (undef), LitR (undef), LitR (.bool true)] 11 rfl (List.forall_mem_cons.2 ⟨LitR.stab _, (List.forall_mem_cons.2 ⟨SlPV.stab _, (List.forall_mem_cons.2 ⟨LitR.stab _, (List.forall_mem_cons.2 ⟨LitR.stab _, (List.forall_mem_cons.2 ⟨LitR.stab _, (List.forall_mem_cons.2 ⟨LitR.stab _, (List.forall_mem_cons.2 ⟨LitR.stab _, (List.forall_mem_cons.2 ⟨LitR.stab _, (List.forall_mem_cons.2 ⟨LitR.stab _, (List.forall_mem_cons.2 ⟨LitR.stab _, (List.forall_mem_cons.2 ⟨LitR.stab _, (fun _ h => nomatch h)⟩)⟩)⟩)⟩)⟩)⟩)⟩)⟩)⟩)⟩)⟩) ⟨[u20, u21, u22, u23, u24, u25, u26, u27, u28, u29, u30], by simp only [putAll, Act.put, List.setIfInBounds_toArray, List.set_cons_succ, List.set_cons_zero], rfl⟩ ?steps ?fin
          case steps =>
            simp only [relSteps]
            refine ⟨?_, ?_, ?_, ?_, ?_, ?_, ?_, ?_, ?_, ?_, ?_, trivial⟩
            · rintro vs W K hc hvl hw hK
              obtain ⟨x0, x1, x2, x3, x4, x5, x6, x7, x8, x9, x10, rfl⟩ := len11 hvl
              have HK := Lib.hid hK
              have HC := Lib.hid hc
              have HW := Lib.hid hw
              clear hK hc hw hvl
              simp only [putAll, Act.put, List.setIfInBounds_toArray, List.set_cons_succ, List.set_cons_zero]
              have rr := RB.out.below HC.out RB.out.lt
              have k0 : W.cell? ⟨wr.heap.size, 0, none⟩ = some (.int .i64 x) := rr.cell 0
              have k1 : W.cell? ⟨wr.heap.size, 1, none⟩ = some (.int .i64 y) := rr.cell 1
              clear rr
              clear HW
              go_wp2_with fail
              have fin := HK.out (.agg #[.int .i64 x, .int .i64 y]) W (Below.refl _ _) rfl
              simp only [putAll, Act.put, List.setIfInBounds_toArray, List.set_cons_succ, List.set_cons_zero] at fin
              exact fin
            · rintro vs W K hc hvl hw hK
              obtain ⟨x0, x1, x2, x3, x4, x5, x6, x7, x8, x9, x10, rfl⟩ := len11 hvl
              have HK := Lib.hid hK
              have HC := Lib.hid hc
              have HW := Lib.hid hw
              clear hK hc hw hvl
              have hd0 := HW.out ⟨0, .data⟩ (by simp) rfl
              obtain rfl : x0 = .agg #[.int .i64 x, .int .i64 y] := rel_get hd0 rfl
              simp only [putAll, Act.put, List.setIfInBounds_toArray, List.set_cons_succ, List.set_cons_zero]
              clear HW hd0
              go_wp2_with fail
              have fin := HK.out (.slice (some ⟨W.heap.size, 0, none⟩) 1 1) (W.alloc (.cells #[.int .i64 x, .int .i64 y] 28)) (Below.al (Below.refl _ _) (Nat.le_refl _) _) (slp_one W x y)
              simp only [putAll, Act.put, List.setIfInBounds_toArray, List.set_cons_succ, List.set_cons_zero] at fin
              exact fin
            · rintro vs W K hc hvl hw hK
              obtain ⟨x0, x1, x2, x3, x4, x5, x6, x7, x8, x9, x10, rfl⟩ := len11 hvl
              have HK := Lib.hid hK
              have HC := Lib.hid hc
              have HW := Lib.hid hw
              clear hK hc hw hvl
              have hd1 := HW.out ⟨1, .data⟩ (by simp) rfl
              have hr := rel_get (x := x1) hd1 rfl
              have HSV := Lib.hid (show SlP W x1 [(x, y)] from hr)
              clear hr
              simp only [putAll, Act.put, List.setIfInBounds_toArray, List.set_cons_succ, List.set_cons_zero]
              clear HW hd1
              go_wp2_with fail
              refine (HCK.out x1 W HSV.out).mono ?_
              rintro e W' ⟨rfl, hb'⟩
              have HB' := Lib.hid hb'
              clear hb'
              go_wp2_with fail
              have fin := HK.out (.int .i64 1) W' HB'.out rfl
              simp only [putAll, Act.put, List.setIfInBounds_toArray, List.set_cons_succ, List.set_cons_zero] at fin
              exact fin
            · rintro vs W K hc hvl hw hK
              obtain ⟨x0, x1, x2, x3, x4, x5, x6, x7, x8, x9, x10, rfl⟩ := len11 hvl
              have HK := Lib.hid hK
              have HC := Lib.hid hc
              have HW := Lib.hid hw
              clear hK hc hw hvl
              have hd2 := HW.out ⟨2, .data⟩ (by simp) rfl
              obtain rfl : x2 = .int .i64 1 := rel_get hd2 rfl
              simp only [putAll, Act.put, List.setIfInBounds_toArray, List.set_cons_succ, List.set_cons_zero]
              clear HW hd2
              go_wp2_with fail
              have fin := HK.out (.bool true) W (Below.refl _ _) rfl
              simp only [putAll, Act.put, List.setIfInBounds_toArray, List.set_cons_succ, List.set_cons_zero] at fin
              exact fin
            · rintro vs W K hc hvl hw hK
              obtain ⟨x0, x1, x2, x3, x4, x5, x6, x7, x8, x9, x10, rfl⟩ := len11 hvl
              have HK := Lib.hid hK
              have HC := Lib.hid hc
              have HW := Lib.hid hw
              clear hK hc hw hvl
              have hd3 := HW.out ⟨3, .data⟩ (by simp) rfl
              obtain rfl : x3 = .bool true := rel_get hd3 rfl
              simp only [putAll, Act.put, List.setIfInBounds_toArray, List.set_cons_succ, List.set_cons_zero]
              clear HW hd3
              go_wp2_with fail
              have fin := HK.out (.bool true) W (Below.refl _ _) rfl
              simp only [putAll, Act.put, List.setIfInBounds_toArray, List.set_cons_succ, List.set_cons_zero] at fin
              exact fin
            · rintro vs W K hc hvl hw hK
              obtain ⟨x0, x1, x2, x3, x4, x5, x6, x7, x8, x9, x10, rfl⟩ := len11 hvl
              have HK := Lib.hid hK
              have HC := Lib.hid hc
              have HW := Lib.hid hw
              clear hK hc hw hvl
              have hd4 := HW.out ⟨4, .guard⟩ (by simp) rfl
              obtain rfl : x4 = .bool true := rel_get hd4 rfl
              simp only [putAll, Act.put, List.setIfInBounds_toArray, List.set_cons_succ, List.set_cons_zero]
              clear HW hd4
              go_wp2_with fail
              have fin := HK.out (undef) W (Below.refl _ _) rfl
              simp only [putAll, Act.put, List.setIfInBounds_toArray, List.set_cons_succ, List.set_cons_zero] at fin
              exact fin
            · rintro vs W K hc hvl hw hK
              obtain ⟨x0, x1, x2, x3, x4, x5, x6, x7, x8, x9, x10, rfl⟩ := len11 hvl
              have HK := Lib.hid hK
              have HC := Lib.hid hc
              have HW := Lib.hid hw
              clear hK hc hw hvl
              have hd4 := HW.out ⟨4, .guard⟩ (by simp) rfl
              obtain rfl : x4 = .bool true := rel_get hd4 rfl
              simp only [putAll, Act.put, List.setIfInBounds_toArray, List.set_cons_succ, List.set_cons_zero]
              clear HW hd4
              go_wp2_with fail
              have fin := HK.out (undef) W (Below.refl _ _) rfl
              simp only [putAll, Act.put, List.setIfInBounds_toArray, List.set_cons_succ, List.set_cons_zero] at fin
              exact fin
            · rintro vs W K hc hvl hw hK
              obtain ⟨x0, x1, x2, x3, x4, x5, x6, x7, x8, x9, x10, rfl⟩ := len11 hvl
              have HK := Lib.hid hK
              have HC := Lib.hid hc
              have HW := Lib.hid hw
              clear hK hc hw hvl
              have hd5 := HW.out ⟨5, .data⟩ (by simp) rfl
              obtain rfl : x5 = undef := rel_get hd5 rfl
              have hd6 := HW.out ⟨6, .data⟩ (by simp) rfl
              obtain rfl : x6 = undef := rel_get hd6 rfl
              have hd4 := HW.out ⟨4, .guard⟩ (by simp) rfl
              obtain rfl : x4 = .bool true := rel_get hd4 rfl
              simp only [putAll, Act.put, List.setIfInBounds_toArray, List.set_cons_succ, List.set_cons_zero]
              clear HW hd4 hd5 hd6
              go_wp2_with fail
              have fin := HK.out (undef) W (Below.refl _ _) rfl
              simp only [putAll, Act.put, List.setIfInBounds_toArray, List.set_cons_succ, List.set_cons_zero] at fin
              exact fin
            · rintro vs W K hc hvl hw hK
              obtain ⟨x0, x1, x2, x3, x4, x5, x6, x7, x8, x9, x10, rfl⟩ := len11 hvl
              have HK := Lib.hid hK
              have HC := Lib.hid hc
              have HW := Lib.hid hw
              clear hK hc hw hvl
              have hd4 := HW.out ⟨4, .guard⟩ (by simp) rfl
              obtain rfl : x4 = .bool true := rel_get hd4 rfl
              simp only [putAll, Act.put, List.setIfInBounds_toArray, List.set_cons_succ, List.set_cons_zero]
              clear HW hd4
              go_wp2_with fail
              have fin := HK.out (undef) W (Below.refl _ _) rfl
              simp only [putAll, Act.put, List.setIfInBounds_toArray, List.set_cons_succ, List.set_cons_zero] at fin
              exact fin
            · rintro vs W K hc hvl hw hK
              obtain ⟨x0, x1, x2, x3, x4, x5, x6, x7, x8, x9, x10, rfl⟩ := len11 hvl
              have HK := Lib.hid hK
              have HC := Lib.hid hc
              have HW := Lib.hid hw
              clear hK hc hw hvl
              have hd7 := HW.out ⟨7, .data⟩ (by simp) rfl
              obtain rfl : x7 = undef := rel_get hd7 rfl
              have hd8 := HW.out ⟨8, .data⟩ (by simp) rfl
              obtain rfl : x8 = undef := rel_get hd8 rfl
              have hd4 := HW.out ⟨4, .guard⟩ (by simp) rfl
              obtain rfl : x4 = .bool true := rel_get hd4 rfl
              simp only [putAll, Act.put, List.setIfInBounds_toArray, List.set_cons_succ, List.set_cons_zero]
              clear HW hd4 hd7 hd8
              go_wp2_with fail
              have fin := HK.out (undef) W (Below.refl _ _) rfl
              simp only [putAll, Act.put, List.setIfInBounds_toArray, List.set_cons_succ, List.set_cons_zero] at fin
              exact fin
            · rintro vs W K hc hvl hw hK
              obtain ⟨x0, x1, x2, x3, x4, x5, x6, x7, x8, x9, x10, rfl⟩ := len11 hvl
              have HK := Lib.hid hK
              have HC := Lib.hid hc
              have HW := Lib.hid hw
              clear hK hc hw hvl
              have hd4 := HW.out ⟨4, .data⟩ (by simp) rfl
              obtain rfl : x4 = .bool true := rel_get hd4 rfl
              have hd9 := HW.out ⟨9, .data⟩ (by simp) rfl
              obtain rfl : x9 = undef := rel_get hd9 rfl
              simp only [putAll, Act.put, List.setIfInBounds_toArray, List.set_cons_succ, List.set_cons_zero]
              clear HW hd4 hd9
              go_wp2_with fail
              have fin := HK.out (.bool true) W (Below.refl _ _) rfl
              simp only [putAll, Act.put, List.setIfInBounds_toArray, List.set_cons_succ, List.set_cons_zero] at fin
              exact fin
          case fin =>
            intro vs W hc hvl hv
            obtain ⟨x0, x1, x2, x3, x4, x5, x6, x7, x8, x9, x10, rfl⟩ := len11 hvl
            have hd10 := hv 10 (by omega)
            obtain rfl : x10 = .bool true := rel_get hd10 rfl
            clear hd10
            simp only [putAll, Act.put, List.setIfInBounds_toArray, List.set_cons_succ, List.set_cons_zero]
            have HC := Lib.hid hc
            have HZ := Lib.hid (HBK.out (.inl HOK.out))
            clear hc hv hvl
            go_wp2_with fail
            go_ret
            exact ⟨ret_int HZ.out.symm, Below.andThen (Below.andThen HB.out.2.2 BB.out (Nat.le_refl _)) HC.out (Nat.le_refl _)⟩
        | true =>
          simp only [if_true] at HCK
          refine wp_region_rel (by kernel_rfl) (by kernel_rfl) [20, 21, 22, 23, 24, 25, 26, 27, 28, 29, 30] [LitR (.agg #[.int .i64 x, .int .i64 y]), (SlPV [(x, y)]), LitR (.int .i64 0), LitR (.bool false), LitR (.bool false), LitR (.slice (some ⟨g, o, none⟩) ps.length c), LitR (.int .i64 (k : Int)), LitR (.slice (some ⟨g, o, none⟩) k c), LitR (.agg #[.int .i64 x, .int .i64 y]), LitR (.bool inn), LitR (.bool inn)] 11 rfl (List.forall_mem_cons.2 ⟨LitR.stab _, (List.forall_mem_cons.2 ⟨SlPV.stab _, (List.forall_mem_cons.2 ⟨LitR.stab _, (List.forall_mem_cons.2 ⟨LitR.stab _, (List.forall_mem_cons.2 ⟨LitR.stab _, (List.forall_mem_cons.2 ⟨LitR.stab _, (List.forall_mem_cons.2 ⟨LitR.stab _, (List.forall_mem_cons.2 ⟨LitR.stab _, (List.forall_mem_cons.2 ⟨LitR.stab _, (List.forall_mem_cons.2 ⟨LitR.stab _, (List.forall_mem_cons.2 ⟨LitR.stab _, (fun _ h => nomatch h)⟩)⟩)⟩)⟩)⟩)⟩)⟩)⟩)⟩)⟩)⟩) ⟨[u20, u21, u22, u23, u24, u25, u26, u27, u28, u29, u30], by simp only [putAll, Act.put, List.setIfInBounds_toArray, List.set_cons_succ, List.set_cons_zero], rfl⟩ ?steps ?fin
          case steps =>
            simp only [relSteps]
            refine ⟨?_, ?_, ?_, ?_, ?_, ?_, ?_, ?_, ?_, ?_, ?_, trivial⟩
            · rintro vs W K hc hvl hw hK
              obtain ⟨x0, x1, x2, x3, x4, x5, x6, x7, x8, x9, x10, rfl⟩ := len11 hvl
              have HK := Lib.hid hK
              have HC := Lib.hid hc
              have HW := Lib.hid hw
              clear hK hc hw hvl
              simp only [putAll, Act.put, List.setIfInBounds_toArray, List.set_cons_succ, List.set_cons_zero]
              have rr := RB.out.below HC.out RB.out.lt
              have k0 : W.cell? ⟨wr.heap.size, 0, none⟩ = some (.int .i64 x) := rr.cell 0
              have k1 : W.cell? ⟨wr.heap.size, 1, none⟩ = some (.int .i64 y) := rr.cell 1
              clear rr
              clear HW
              go_wp2_with fail
              have fin := HK.out (.agg #[.int .i64 x, .int .i64 y]) W (Below.refl _ _) rfl
              simp only [putAll, Act.put, List.setIfInBounds_toArray, List.set_cons_succ, List.set_cons_zero] at fin
              exact fin
            · rintro vs W K hc hvl hw hK
              obtain ⟨x0, x1, x2, x3, x4, x5, x6, x7, x8, x9, x10, rfl⟩ := len11 hvl
              have HK := Lib.hid hK
              have HC := Lib.hid hc
              have HW := Lib.hid hw
              clear hK hc hw hvl
              have hd0 := HW.out ⟨0, .data⟩ (by simp) rfl
              obtain rfl : x0 = .agg #[.int .i64 x, .int .i64 y] := rel_get hd0 rfl
              simp only [putAll, Act.put, List.setIfInBounds_toArray, List.set_cons_succ, List.set_cons_zero]
              clear HW hd0
              go_wp2_with fail
              have fin := HK.out (.slice (some ⟨W.heap.size, 0, none⟩) 1 1) (W.alloc (.cells #[.int .i64 x, .int .i64 y] 28)) (Below.al (Below.refl _ _) (Nat.le_refl _) _) (slp_one W x y)
              simp only [putAll, Act.put, List.setIfInBounds_toArray, List.set_cons_succ, List.set_cons_zero] at fin
              exact fin
            · rintro vs W K hc hvl hw hK
              obtain ⟨x0, x1, x2, x3, x4, x5, x6, x7, x8, x9, x10, rfl⟩ := len11 hvl
              have HK := Lib.hid hK
              have HC := Lib.hid hc
              have HW := Lib.hid hw
              clear hK hc hw hvl
              have hd1 := HW.out ⟨1, .data⟩ (by simp) rfl
              have hr := rel_get (x := x1) hd1 rfl
              have HSV := Lib.hid (show SlP W x1 [(x, y)] from hr)
              clear hr
              simp only [putAll, Act.put, List.setIfInBounds_toArray, List.set_cons_succ, List.set_cons_zero]
              clear HW hd1
              go_wp2_with fail
              refine (HCK.out x1 W HSV.out).mono ?_
              rintro e W' ⟨rfl, hb'⟩
              have HB' := Lib.hid hb'
              clear hb'
              go_wp2_with fail
              have fin := HK.out (.int .i64 0) W' HB'.out rfl
              simp only [putAll, Act.put, List.setIfInBounds_toArray, List.set_cons_succ, List.set_cons_zero] at fin
              exact fin
            · rintro vs W K hc hvl hw hK
              obtain ⟨x0, x1, x2, x3, x4, x5, x6, x7, x8, x9, x10, rfl⟩ := len11 hvl
              have HK := Lib.hid hK
              have HC := Lib.hid hc
              have HW := Lib.hid hw
              clear hK hc hw hvl
              have hd2 := HW.out ⟨2, .data⟩ (by simp) rfl
              obtain rfl : x2 = .int .i64 0 := rel_get hd2 rfl
              simp only [putAll, Act.put, List.setIfInBounds_toArray, List.set_cons_succ, List.set_cons_zero]
              clear HW hd2
              go_wp2_with fail
              have fin := HK.out (.bool false) W (Below.refl _ _) rfl
              simp only [putAll, Act.put, List.setIfInBounds_toArray, List.set_cons_succ, List.set_cons_zero] at fin
              exact fin
            · rintro vs W K hc hvl hw hK
              obtain ⟨x0, x1, x2, x3, x4, x5, x6, x7, x8, x9, x10, rfl⟩ := len11 hvl
              have HK := Lib.hid hK
              have HC := Lib.hid hc
              have HW := Lib.hid hw
              clear hK hc hw hvl
              have hd3 := HW.out ⟨3, .data⟩ (by simp) rfl
              obtain rfl : x3 = .bool false := rel_get hd3 rfl
              simp only [putAll, Act.put, List.setIfInBounds_toArray, List.set_cons_succ, List.set_cons_zero]
              clear HW hd3
              go_wp2_with fail
              have fin := HK.out (.bool false) W (Below.refl _ _) rfl
              simp only [putAll, Act.put, List.setIfInBounds_toArray, List.set_cons_succ, List.set_cons_zero] at fin
              exact fin
            · rintro vs W K hc hvl hw hK
              obtain ⟨x0, x1, x2, x3, x4, x5, x6, x7, x8, x9, x10, rfl⟩ := len11 hvl
              have HK := Lib.hid hK
              have HC := Lib.hid hc
              have HW := Lib.hid hw
              clear hK hc hw hvl
              have hd4 := HW.out ⟨4, .guard⟩ (by simp) rfl
              obtain rfl : x4 = .bool false := rel_get hd4 rfl
              simp only [putAll, Act.put, List.setIfInBounds_toArray, List.set_cons_succ, List.set_cons_zero]
              clear HW hd4
              go_wp2_with fail
              have fin := HK.out (.slice (some ⟨g, o, none⟩) ps.length c) W (Below.refl _ _) rfl
              simp only [putAll, Act.put, List.setIfInBounds_toArray, List.set_cons_succ, List.set_cons_zero] at fin
              exact fin
            · rintro vs W K hc hvl hw hK
              obtain ⟨x0, x1, x2, x3, x4, x5, x6, x7, x8, x9, x10, rfl⟩ := len11 hvl
              have HK := Lib.hid hK
              have HC := Lib.hid hc
              have HW := Lib.hid hw
              clear hK hc hw hvl
              have hd4 := HW.out ⟨4, .guard⟩ (by simp) rfl
              obtain rfl : x4 = .bool false := rel_get hd4 rfl
              simp only [putAll, Act.put, List.setIfInBounds_toArray, List.set_cons_succ, List.set_cons_zero]
              clear HW hd4
              go_wp2_with fail
              have fin := HK.out (.int .i64 (k : Int)) W (Below.refl _ _) rfl
              simp only [putAll, Act.put, List.setIfInBounds_toArray, List.set_cons_succ, List.set_cons_zero] at fin
              exact fin
            · rintro vs W K hc hvl hw hK
              obtain ⟨x0, x1, x2, x3, x4, x5, x6, x7, x8, x9, x10, rfl⟩ := len11 hvl
              have HK := Lib.hid hK
              have HC := Lib.hid hc
              have HW := Lib.hid hw
              clear hK hc hw hvl
              have hd5 := HW.out ⟨5, .data⟩ (by simp) rfl
              obtain rfl : x5 = .slice (some ⟨g, o, none⟩) ps.length c := rel_get hd5 rfl
              have hd6 := HW.out ⟨6, .data⟩ (by simp) rfl
              obtain rfl : x6 = .int .i64 (k : Int) := rel_get hd6 rfl
              have hd4 := HW.out ⟨4, .guard⟩ (by simp) rfl
              obtain rfl : x4 = .bool false := rel_get hd4 rfl
              simp only [putAll, Act.put, List.setIfInBounds_toArray, List.set_cons_succ, List.set_cons_zero]
              clear HW hd4 hd5 hd6
              go_wp2_with fail
              have fin := HK.out (.slice (some ⟨g, o, none⟩) k c) W (Below.refl _ _) rfl
              simp only [putAll, Act.put, List.setIfInBounds_toArray, List.set_cons_succ, List.set_cons_zero] at fin
              exact fin
            · rintro vs W K hc hvl hw hK
              obtain ⟨x0, x1, x2, x3, x4, x5, x6, x7, x8, x9, x10, rfl⟩ := len11 hvl
              have HK := Lib.hid hK
              have HC := Lib.hid hc
              have HW := Lib.hid hw
              clear hK hc hw hvl
              have hd4 := HW.out ⟨4, .guard⟩ (by simp) rfl
              obtain rfl : x4 = .bool false := rel_get hd4 rfl
              simp only [putAll, Act.put, List.setIfInBounds_toArray, List.set_cons_succ, List.set_cons_zero]
              have rr := RB.out.below HC.out RB.out.lt
              have k0 : W.cell? ⟨wr.heap.size, 0, none⟩ = some (.int .i64 x) := rr.cell 0
              have k1 : W.cell? ⟨wr.heap.size, 1, none⟩ = some (.int .i64 y) := rr.cell 1
              clear rr
              clear HW hd4
              go_wp2_with fail
              have fin := HK.out (.agg #[.int .i64 x, .int .i64 y]) W (Below.refl _ _) rfl
              simp only [putAll, Act.put, List.setIfInBounds_toArray, List.set_cons_succ, List.set_cons_zero] at fin
              exact fin
            · rintro vs W K hc hvl hw hK
              obtain ⟨x0, x1, x2, x3, x4, x5, x6, x7, x8, x9, x10, rfl⟩ := len11 hvl
              have HK := Lib.hid hK
              have HC := Lib.hid hc
              have HW := Lib.hid hw
              clear hK hc hw hvl
              have hd7 := HW.out ⟨7, .data⟩ (by simp) rfl
              obtain rfl : x7 = .slice (some ⟨g, o, none⟩) k c := rel_get hd7 rfl
              have hd8 := HW.out ⟨8, .data⟩ (by simp) rfl
              obtain rfl : x8 = .agg #[.int .i64 x, .int .i64 y] := rel_get hd8 rfl
              have hd4 := HW.out ⟨4, .guard⟩ (by simp) rfl
              obtain rfl : x4 = .bool false := rel_get hd4 rfl
              simp only [putAll, Act.put, List.setIfInBounds_toArray, List.set_cons_succ, List.set_cons_zero]
              clear HW hd4 hd7 hd8
              go_wp2_with fail
              refine (HCO.out W (Below.andThen BB.out HC.out (Nat.le_refl _))).mono ?_
              rintro e W' ⟨rfl, hb'⟩
              have HB' := Lib.hid hb'
              clear hb'
              go_wp2_with fail
              have fin := HK.out (.bool inn) W' HB'.out rfl
              simp only [putAll, Act.put, List.setIfInBounds_toArray, List.set_cons_succ, List.set_cons_zero] at fin
              exact fin
            · rintro vs W K hc hvl hw hK
              obtain ⟨x0, x1, x2, x3, x4, x5, x6, x7, x8, x9, x10, rfl⟩ := len11 hvl
              have HK := Lib.hid hK
              have HC := Lib.hid hc
              have HW := Lib.hid hw
              clear hK hc hw hvl
              have hd4 := HW.out ⟨4, .data⟩ (by simp) rfl
              obtain rfl : x4 = .bool false := rel_get hd4 rfl
              have hd9 := HW.out ⟨9, .data⟩ (by simp) rfl
              obtain rfl : x9 = .bool inn := rel_get hd9 rfl
              simp only [putAll, Act.put, List.setIfInBounds_toArray, List.set_cons_succ, List.set_cons_zero]
              clear HW hd4 hd9
              go_wp2_with fail
              have fin := HK.out (.bool inn) W (Below.refl _ _) rfl
              simp only [putAll, Act.put, List.setIfInBounds_toArray, List.set_cons_succ, List.set_cons_zero] at fin
              exact fin
          case fin =>
            intro vs W hc hvl hv
            obtain ⟨x0, x1, x2, x3, x4, x5, x6, x7, x8, x9, x10, rfl⟩ := len11 hvl
            have hd10 := hv 10 (by omega)
            obtain rfl : x10 = .bool inn := rel_get hd10 rfl
            clear hd10
            simp only [putAll, Act.put, List.setIfInBounds_toArray, List.set_cons_succ, List.set_cons_zero]
            have HC := Lib.hid hc
            clear hc hv hvl
            cases inn with
            | true =>
              have HZ := Lib.hid (HBK.out (.inr (of_decide_eq_true HIN.out)))
              go_wp2_with fail
              go_ret
              exact ⟨ret_int HZ.out.symm, Below.andThen (Below.andThen HB.out.2.2 BB.out (Nat.le_refl _)) HC.out (Nat.le_refl _)⟩
            | false =>
              have HN := Lib.hid (show (∀ p ∈ ps.take (k + 1), okP p = true) ∧ (ps.take (k + 1)).Nodup by
                rw [HTS.out]
                refine ⟨fun p hp => ?_, ?_⟩
                · rcases List.mem_append.1 hp with hp | hp
                  · exact HB.out.1 p hp
                  · rw [List.mem_singleton.1 hp]; exact HOK.out
                · rw [List.nodup_append]
                  refine ⟨HB.out.2.1, by simp, fun p hp q hq e => ?_⟩
                  rw [List.mem_singleton.1 hq] at e
                  subst e
                  exact of_decide_eq_false HIN.out hp)
              go_wp2_with fail
              exact ⟨⟨k + 1, by omega, by simp, Lib.hid ⟨HN.out.1, HN.out.2, Below.andThen (Below.andThen HB.out.2.2 BB.out (Nat.le_refl _)) HC.out (Nat.le_refl _)⟩⟩, by simp [intOf]; omega⟩
      · have hd : decide ((k : Int) < (ps.length : Int)) = false := decide_eq_false (by omega)
        have hdn : decide (k < ps.length) = false := decide_eq_false hlt
        obtain rfl : k = ps.length := by omega
        have h1 := HB.out.1
        have h2 := HB.out.2.1
        rw [List.take_length] at h1 h2
        have HZ := Lib.hid (show E = 0 by
          rw [← HE.out]; unfold errP
          rw [if_pos (chkP_iff.2 ⟨hlen, fun p hp => okP_iff.1 (h1 p hp), h2⟩)])
        clear h1 h2
        go_wp2_with fail
        go_ret
        exact ⟨ret_int HZ.out.symm, HB.out.2.2⟩
  · have HZ := Lib.hid (show E = 40 by
      rw [← HE.out]; unfold errP
      rw [if_neg (fun h => hlen (chkP_iff.1 h).1)])
    by_cases h1 : ps.length < 1
    · have d1 : decide ((ps.length : Int) < 1) = true := decide_eq_true (by omega)
      go_enter Try.func17, Try.ntmps17
      go_wp2_with fail
      go_ret
      exact ⟨ret_int HZ.out.symm, Below.refl _ _⟩
    · have d1 : decide ((ps.length : Int) < 1) = false := decide_eq_false (by omega)
      have d2 : decide (12 < (ps.length : Int)) = true := decide_eq_true (by omega)
      go_enter Try.func17, Try.ntmps17
      go_wp2_with fail
      go_ret
      exact ⟨ret_int HZ.out.symm, Below.refl _ _⟩
end Go.Proofs.Ytlemipnplgbckaa
