import Derived.Test.YtlemipnplgbckaaRS
import Derived.Laws.AppendOwn
import Derived.ChangeKeysEq
import Derived.Maps.RangeWalk
import Derived.Maps.OwnIn
import Derived.Maps.AppendAt
import Derived.RangeFuncNested
import Derived.RangeFuncBound
import Derived.RangeFuncCalls
import Derived.RangeFuncLeaves
import Derived.Shelf.Abstract
import Derived.Shelf.RegionOpen
import Derived.WalkKit
import Derived.WalkMore
import Derived.OwnWalkIn
import Derived.TacticsInMore
import Derived.LoopNIn
import Derived.LoopIn
import Derived.WalkSpells
import Derived.WalkLawsBesides
import Derived.BigQuiet
import Derived.Deep.QuietTactic
import Derived.Lib.Hide
import Derived.Deep.RegionHeld3
import Derived.StillTailTactics
import Derived.Deep.LoopGhost
import Derived.Maps.OwnSet
import Derived.Lib.IndexAny
import Derived.Sort.QuietThIn
import Derived.Sort.QuietTacIn
import Derived.Sort.BigQuietIn
import Derived.Laws.OwnMore
import Derived.DeepKeys4
import Derived.Maps.Views
import Derived.Maps.OwnOps
import Derived.Deep.DeepCutAuto
import Derived.Shelf.Bits.Mul64
import Derived.Shelf.LaysM
namespace Go.Proofs.Ytlemipnplgbckaa
open Go.RowKit Go.Shelf
attribute [local go_sem] Oper.semAt_some
set_option maxRecDepth 100000 in
set_option maxHeartbeats 1000000 in
theorem holds_any (ps : List Pt) (v : Value) (C : Cir) (w : World) (hv : SlP w v ps) (hl : ps.length ≤ 12) (hpb : ∀ p ∈ ps, Bd 20 p.1 ∧ Bd 20 p.2) (hcb : CirB C) :
    Calls Try.prog 78 #[v, .agg #[.int .i64 (C.X), .int .i64 (C.Y), .int .i64 (C.D), .int .i64 (C.R)]] w fun e w' => e = .returned (.bool (holdB ps C)) ∧ Below w.heap.size w w' := by
  obtain ⟨a, c, rfl, hc, hs⟩ := hv
  have HS := Lib.hid hs
  have HPB := Lib.hid hpb
  obtain ⟨n, hn⟩ : ∃ n, ps.length = n := ⟨_, rfl⟩
  have HN := Lib.hid hn
  have HH := Lib.hid (show holdB ps C = !(ps.any fun p => decide (0 < whF C p)) from rfl)
  rw [hn] at hl hc ⊢
  clear hs hpb hn
  obtain ⟨bb, rr⟩ := box_start w 46 [.int .i64 (C.X), .int .i64 (C.Y), .int .i64 (C.D), .int .i64 (C.R)]
  have BB := Lib.hid bb
  have RB := Lib.hid rr
  clear bb rr
  generalize holdB ps C = H at *
  go_enter Try.func78, Try.ntmps78
  go_wp2_with fail
  go_loopw [5] (fun iv wr => ∃ k : Nat, k ≤ n ∧ iv = .int .i64 (k : Int) ∧ Hid (((ps.take k).any fun p => decide (0 < whF C p)) = false ∧ Below w.heap.size w wr ∧ Row wr w.heap.size 46 [.int .i64 (C.X), .int .i64 (C.Y), .int .i64 (C.D), .int .i64 (C.R)])) (fun iv _ => (n - intOf iv).toNat)
  case atStart => exact ⟨0, by omega, rfl, Lib.hid ⟨by simp, BB.out, RB.out⟩⟩
  case round =>
    obtain ⟨k, hk, rfl, HB⟩ := hrel
    have kw : IntKind.i64.wrap ((k : Int) + 1) = ((k + 1 : Nat) : Int) := by rw [i64_of _ (by omega) (by omega)]; omega
    by_cases hlt : k < n
    · have hd : decide ((k : Int) < (n : Int)) = true := decide_eq_true (by omega)
      have hdn : decide (k < n) = true := decide_eq_true hlt
      obtain ⟨g, o, rfl, hps⟩ : ∃ g o, a = some ⟨g, o, none⟩ ∧ PtsAt w g o ps := HS.out.resolve_left (fun e => by have := HN.out; rw [e] at this; simp at this; omega)
      have hk1 : (k : Int) < (n : Int) := by omega
      have HK1 := Lib.hid hk1
      have HPK := Lib.hid (fun W (hb : Below wr.heap.size wr W) => pt_cell hps (Below.andThen HB.out.2.1 hb (Nat.le_refl _)) HN.out hlt)
      have HBK := Lib.hid (pt_bd HPB.out HN.out hlt)
      have HRB := Lib.hid HB.out.2.2
      have HTK := Lib.hid (holdB_take (ps := ps) (c := C) (k := k) (by rw [HN.out]; exact hlt))
      have HAN := Lib.hid (show 0 < whF C (ptAt ps k) → H = false from fun h => by
        have hm : ptAt ps k ∈ ps := by rw [ptAt_lt (show k < ps.length by rw [HN.out]; exact hlt)]; exact List.getElem_mem _
        have h5 : (ps.any fun p => decide (0 < whF C p)) = true := List.any_eq_true.2 ⟨_, hm, decide_eq_true h⟩
        exact HH.out.trans (congrArg Bool.not h5))
      clear hps hk1
      generalize ptAt ps k = pk at *
      obtain ⟨ak, bk⟩ := pk
      dsimp only at HPK HBK
      have HFR := Lib.hid (fun W : World => rWhere_any C ak bk W hcb HBK.out.1 HBK.out.2)
      obtain ⟨E, hE⟩ : ∃ E, decide (0 < whF C (ak, bk)) = E := ⟨_, rfl⟩
      have hE2 : decide (whF C (ak, bk) > 0) = E := hE
      have HEE := Lib.hid (And.intro hE hE2)
      clear hE hE2
      generalize whF C (ak, bk) = FV at *
      go_wp2_with fail
      refine wp_region_box (by kernel_rfl) (by kernel_rfl) [12, 13, 14, 15, 16, 17, 18] [(fun v => v = .agg #[.int .i64 (C.X), .int .i64 (C.Y), .int .i64 (C.D), .int .i64 (C.R)]), (fun v => v = .slice (some ⟨g, o, none⟩) n c), (fun v => v = .int .i64 (k : Int)), (fun v => v = .pointer (some ⟨g, o + k * 2, none⟩)), (fun v => v = .agg #[.int .i64 ak, .int .i64 bk]), (fun v => v = .int .i64 FV), (fun v => v = .bool E)] [none, none, none, none, none, none, none] [none, none, none, none, none, none, none] 7 rfl (by kernel_rfl) ?tr ⟨_, (putAll_self _ _).symm, rfl⟩ ?steps ?fin
      case tr =>
        rintro i v h
        rcases i with _ | _ | _ | _ | _ | _ | _ | i
        all_goals first | trivial | (exfalso; rcases h with h | h <;> simp at h)
      case steps =>
        simp only [boxSteps, Nat.reduceAdd, Nat.zero_add, List.getD_cons_succ, List.getD_cons_zero]
        refine ⟨?_, ?_, ?_, ?_, ?_, ?_, ?_, trivial⟩
        · rintro vs W K hc hvl hw hK
          obtain ⟨x0, x1, x2, x3, x4, x5, x6, rfl⟩ := len7 hvl
          have HK := Lib.hid hK
          have HC := Lib.hid hc
          have HW := Lib.hid hw
          clear hK hc hw hvl
          simp only [putAll, Act.put, List.setIfInBounds_toArray, List.set_cons_succ, List.set_cons_zero, List.set_nil]
          have rr := HRB.out.below HC.out HRB.out.lt
          have d0 := rr.cell 0
          have d1 := rr.cell 1
          have d2 := rr.cell 2
          have d3 := rr.cell 3
          simp only [List.getElem?_cons_zero, List.getElem?_cons_succ] at d0 d1 d2 d3
          clear rr
          clear HW
          go_wp2_with fail
          have fin := HK.out (.agg #[.int .i64 (C.X), .int .i64 (C.Y), .int .i64 (C.D), .int .i64 (C.R)]) W (Below.refl _ _) rfl
          simp only [putAll, Act.put, List.setIfInBounds_toArray, List.set_cons_succ, List.set_cons_zero, List.set_nil] at fin
          exact fin
        · rintro vs W K hc hvl hw hK
          obtain ⟨x0, x1, x2, x3, x4, x5, x6, rfl⟩ := len7 hvl
          have HK := Lib.hid hK
          have HC := Lib.hid hc
          have HW := Lib.hid hw
          clear hK hc hw hvl
          simp only [putAll, Act.put, List.setIfInBounds_toArray, List.set_cons_succ, List.set_cons_zero, List.set_nil]
          clear HW
          go_wp2_with fail
          have fin := HK.out (.slice (some ⟨g, o, none⟩) n c) W (Below.refl _ _) rfl
          simp only [putAll, Act.put, List.setIfInBounds_toArray, List.set_cons_succ, List.set_cons_zero, List.set_nil] at fin
          exact fin
        · rintro vs W K hc hvl hw hK
          obtain ⟨x0, x1, x2, x3, x4, x5, x6, rfl⟩ := len7 hvl
          have HK := Lib.hid hK
          have HC := Lib.hid hc
          have HW := Lib.hid hw
          clear hK hc hw hvl
          simp only [putAll, Act.put, List.setIfInBounds_toArray, List.set_cons_succ, List.set_cons_zero, List.set_nil]
          clear HW
          go_wp2_with fail
          have fin := HK.out (.int .i64 (k : Int)) W (Below.refl _ _) rfl
          simp only [putAll, Act.put, List.setIfInBounds_toArray, List.set_cons_succ, List.set_cons_zero, List.set_nil] at fin
          exact fin
        · rintro vs W K hc hvl hw hK
          obtain ⟨x0, x1, x2, x3, x4, x5, x6, rfl⟩ := len7 hvl
          have HK := Lib.hid hK
          have HC := Lib.hid hc
          have HW := Lib.hid hw
          clear hK hc hw hvl
          obtain rfl : x1 = .slice (some ⟨g, o, none⟩) n c := box_get (HW.out ⟨1, .data⟩ (by simp) rfl) rfl
          obtain rfl : x2 = .int .i64 (k : Int) := box_get (HW.out ⟨2, .data⟩ (by simp) rfl) rfl
          simp only [putAll, Act.put, List.setIfInBounds_toArray, List.set_cons_succ, List.set_cons_zero, List.set_nil]
          have hi1 := HK1.out
          clear HW
          go_wp2_with fail
          have fin := HK.out (.pointer (some ⟨g, o + k * 2, none⟩)) W (Below.refl _ _) rfl
          simp only [putAll, Act.put, List.setIfInBounds_toArray, List.set_cons_succ, List.set_cons_zero, List.set_nil] at fin
          exact fin
        · rintro vs W K hc hvl hw hK
          obtain ⟨x0, x1, x2, x3, x4, x5, x6, rfl⟩ := len7 hvl
          have HK := Lib.hid hK
          have HC := Lib.hid hc
          have HW := Lib.hid hw
          clear hK hc hw hvl
          obtain rfl : x3 = .pointer (some ⟨g, o + k * 2, none⟩) := box_get (HW.out ⟨3, .data⟩ (by simp) rfl) rfl
          simp only [putAll, Act.put, List.setIfInBounds_toArray, List.set_cons_succ, List.set_cons_zero, List.set_nil]
          have d0 := (HPK.out W HC.out).1
          have d1 := (HPK.out W HC.out).2
          clear HW
          go_wp2_with fail
          have fin := HK.out (.agg #[.int .i64 ak, .int .i64 bk]) W (Below.refl _ _) rfl
          simp only [putAll, Act.put, List.setIfInBounds_toArray, List.set_cons_succ, List.set_cons_zero, List.set_nil] at fin
          exact fin
        · rintro vs W K hc hvl hw hK
          obtain ⟨x0, x1, x2, x3, x4, x5, x6, rfl⟩ := len7 hvl
          have HK := Lib.hid hK
          have HC := Lib.hid hc
          have HW := Lib.hid hw
          clear hK hc hw hvl
          obtain rfl : x0 = .agg #[.int .i64 (C.X), .int .i64 (C.Y), .int .i64 (C.D), .int .i64 (C.R)] := box_get (HW.out ⟨0, .data⟩ (by simp) rfl) rfl
          obtain rfl : x4 = .agg #[.int .i64 ak, .int .i64 bk] := box_get (HW.out ⟨4, .data⟩ (by simp) rfl) rfl
          simp only [putAll, Act.put, List.setIfInBounds_toArray, List.set_cons_succ, List.set_cons_zero, List.set_nil]
          clear HW
          go_wp2_with fail
          refine (HFR.out W).mono ?_
          rintro e W' ⟨rfl, hb'⟩
          have HB' := Lib.hid hb'
          clear hb'
          go_wp2_with fail
          have fin := HK.out (.int .i64 FV) W' HB'.out rfl
          simp only [putAll, Act.put, List.setIfInBounds_toArray, List.set_cons_succ, List.set_cons_zero, List.set_nil] at fin
          exact fin
        · rintro vs W K hc hvl hw hK
          obtain ⟨x0, x1, x2, x3, x4, x5, x6, rfl⟩ := len7 hvl
          have HK := Lib.hid hK
          have HC := Lib.hid hc
          have HW := Lib.hid hw
          clear hK hc hw hvl
          obtain rfl : x5 = .int .i64 FV := box_get (HW.out ⟨5, .data⟩ (by simp) rfl) rfl
          simp only [putAll, Act.put, List.setIfInBounds_toArray, List.set_cons_succ, List.set_cons_zero, List.set_nil]
          have e1 := HEE.out.1
          have e2 := HEE.out.2
          clear HW
          go_wp2_with fail
          have fin := HK.out (.bool E) W (Below.refl _ _) rfl
          simp only [putAll, Act.put, List.setIfInBounds_toArray, List.set_cons_succ, List.set_cons_zero, List.set_nil] at fin
          exact fin
      case fin =>
        rintro vs W hJ
        obtain ⟨x0, x1, x2, x3, x4, x5, x6, rfl⟩ := len7 hJ.ln
        obtain rfl : x6 = .bool E := box_get (hJ.val 6 rfl) rfl
        have HC := Lib.hid hJ.bl
        clear hJ
        simp only [putAll, Act.put, List.setIfInBounds_toArray, List.set_cons_succ, List.set_cons_zero, List.set_nil]
        cases E with
        | true =>
          have HF := Lib.hid (HAN.out (of_decide_eq_true HEE.out.1))
          go_wp2_with fail
          refine bodyPost_ret (v := .bool false) (by simp [results, Try.results78, go_sem]) rfl ⟨by rw [HF.out], Below.andThen HB.out.2.1 HC.out (Nat.le_refl _)⟩
        | false =>
          have HX := Lib.hid (HTK.out.trans (by rw [HB.out.1, HEE.out.1, Bool.or_self]))
          go_wp2_with fail
          exact ⟨⟨k + 1, by omega, rfl, Lib.hid ⟨HX.out, Below.andThen HB.out.2.1 HC.out (Nat.le_refl _), HRB.out.below HC.out HRB.out.lt⟩⟩, by simp [intOf]; omega⟩
    · have hd : decide ((k : Int) < (n : Int)) = false := decide_eq_false (by omega)
      have hdn : decide (k < n) = false := decide_eq_false hlt
      obtain rfl : k = n := by omega
      have HF := Lib.hid (show H = true by
        have h5 := HB.out.1
        rw [← HN.out, List.take_length] at h5
        exact HH.out.trans (congrArg Bool.not h5))
      go_wp2_with fail
      refine bodyPost_ret (v := .bool true) (by simp [results, Try.results78, go_sem]) rfl ⟨by rw [HF.out], HB.out.2.1⟩
end Go.Proofs.Ytlemipnplgbckaa
