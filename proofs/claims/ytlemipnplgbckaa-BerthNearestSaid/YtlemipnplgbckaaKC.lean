import Derived.Test.YtlemipnplgbckaaKB
import Derived.Laws.AppendOwn
import Derived.ChangeKeysEq
import Derived.Maps.RangeWalk
import Derived.Maps.OwnIn
import Derived.Maps.AppendAt
import Derived.RangeFuncNested
import Derived.RangeFuncBound
import Derived.RangeFuncCalls
import Derived.RangeFuncLeaves
import Derived.Shelf.Abstract
import Derived.Shelf.RegionOpen
import Derived.WalkKit
import Derived.WalkMore
import Derived.OwnWalkIn
import Derived.TacticsInMore
import Derived.LoopNIn
import Derived.LoopIn
import Derived.WalkSpells
import Derived.WalkLawsBesides
import Derived.BigQuiet
import Derived.Deep.QuietTactic
import Derived.Lib.Hide
import Derived.Deep.RegionHeld3
import Derived.StillTailTactics
import Derived.Deep.LoopGhost
import Derived.Maps.OwnSet
import Derived.Lib.IndexAny
import Derived.Sort.QuietThIn
import Derived.Sort.QuietTacIn
import Derived.Sort.BigQuietIn
import Derived.Laws.OwnMore
import Derived.DeepKeys4
import Derived.Maps.Views
import Derived.Maps.OwnOps
import Derived.Deep.DeepCutAuto
import Derived.Shelf.Bits.Mul64
import Derived.Shelf.LaysM
namespace Go.Proofs.Ytlemipnplgbckaa
open Go.RowKit Go.Shelf
attribute [local go_sem] Oper.semAt_some
/-- the boxes of the reference's search for pairs -/
structure RpI (w : World) (nr fa : Nat × Nat) (V : World) : Prop where
  r0 : Row V w.heap.size 28 [.int .i64 0, .int .i64 0]
  r1 : Row V (w.heap.size + 1) 28 [.int .i64 0, .int .i64 0]
  nr : Row V (w.heap.size + 1 + 1) 28 [.int .i64 (nr.1 : Int), .int .i64 (nr.2 : Int)]
  fa : Row V (w.heap.size + 1 + 1 + 1) 28 [.int .i64 (fa.1 : Int), .int .i64 (fa.2 : Int)]
  bl : Below w.heap.size w V
theorem RpI.grow {w V W : World} {nr fa : Nat × Nat} (h : RpI w nr fa V) (hb : Below V.heap.size V W) : RpI w nr fa W :=
  ⟨h.r0.below hb h.r0.lt, h.r1.below hb h.r1.lt, h.nr.below hb h.nr.lt, h.fa.below hb h.fa.lt, Below.andThen h.bl hb (Nat.le_refl _)⟩
theorem RpI.setNr {w V : World} {nr fa : Nat × Nat} (h : RpI w nr fa V) (t : Nat × Nat) : RpI w t fa ((V.setCell ⟨w.heap.size + 1 + 1, 0, none⟩ (.int .i64 (t.1 : Int))).setCell ⟨w.heap.size + 1 + 1, 1, none⟩ (.int .i64 (t.2 : Int))) := by
  have e1 : w.heap.size ≠ w.heap.size + 1 + 1 := by omega
  have e2 : w.heap.size + 1 ≠ w.heap.size + 1 + 1 := by omega
  have e3 : w.heap.size + 1 + 1 + 1 ≠ w.heap.size + 1 + 1 := by omega
  have q := (h.nr.set 0 (.int .i64 (t.1 : Int))).set 1 (.int .i64 (t.2 : Int))
  simp only [List.set_cons_zero, List.set_cons_succ] at q
  exact ⟨(h.r0.other 0 _ e1).other 1 _ e1, (h.r1.other 0 _ e2).other 1 _ e2, q, (h.fa.other 0 _ e3).other 1 _ e3, (h.bl.setCell (p := ⟨w.heap.size + 1 + 1, 0, none⟩) (by dsimp only; omega) _).setCell (p := ⟨w.heap.size + 1 + 1, 1, none⟩) (by dsimp only; omega) _⟩
theorem RpI.setFa {w V : World} {nr fa : Nat × Nat} (h : RpI w nr fa V) (t : Nat × Nat) : RpI w nr t ((V.setCell ⟨w.heap.size + 1 + 1 + 1, 0, none⟩ (.int .i64 (t.1 : Int))).setCell ⟨w.heap.size + 1 + 1 + 1, 1, none⟩ (.int .i64 (t.2 : Int))) := by
  have e1 : w.heap.size ≠ w.heap.size + 1 + 1 + 1 := by omega
  have e2 : w.heap.size + 1 ≠ w.heap.size + 1 + 1 + 1 := by omega
  have e3 : w.heap.size + 1 + 1 ≠ w.heap.size + 1 + 1 + 1 := by omega
  have q := (h.fa.set 0 (.int .i64 (t.1 : Int))).set 1 (.int .i64 (t.2 : Int))
  simp only [List.set_cons_zero, List.set_cons_succ] at q
  exact ⟨(h.r0.other 0 _ e1).other 1 _ e1, (h.r1.other 0 _ e2).other 1 _ e2, (h.nr.other 0 _ e3).other 1 _ e3, q, (h.bl.setCell (p := ⟨w.heap.size + 1 + 1 + 1, 0, none⟩) (by dsimp only; omega) _).setCell (p := ⟨w.heap.size + 1 + 1 + 1, 1, none⟩) (by dsimp only; omega) _⟩
theorem fd_swap (a b : Pt) : fd a b = fd b a := by unfold fd; grind
theorem prB_mem {n i k : Nat} (hi : i < n) (hk : k ≤ n - (i + 1)) : ∀ t ∈ prB n i k, t ∈ prL n := fun _t ht => (prB_pre n i k hi hk).subset ht
set_option maxRecDepth 100000 in
set_option maxHeartbeats 4000000 in
theorem rPairs_any (ps : List Pt) (v : Value) (w : World) (hv : SlP w v ps) (he : chkP ps = true) (h2 : 2 ≤ ps.length) :
    Calls Try.prog 48 #[v] w fun e w' => e = .returned (.tuple #[encP (nrK ps (prL ps.length)), encP (faK ps (prL ps.length))]) ∧ Below w.heap.size w w' := by
  obtain ⟨⟨_, hl⟩, hpb, _⟩ := chkP_iff.1 he
  obtain ⟨a, c, rfl, hc, hs⟩ := hv
  have HPB := Lib.hid hpb
  obtain ⟨n, hn⟩ : ∃ n, ps.length = n := ⟨_, rfl⟩
  have HN := Lib.hid hn
  rw [hn] at hl hc h2 ⊢
  obtain ⟨g, o, rfl, hps⟩ : ∃ g o, a = some ⟨g, o, none⟩ ∧ PtsAt w g o ps := hs.resolve_left (fun e => by rw [e] at hn; simp at hn; omega)
  have HPT := Lib.hid (fun (t : Nat) (ht : t < n) W (hb : Below w.heap.size w W) => pt_cell hps hb hn ht)
  have HBD := Lib.hid (fun (t : Nat) (ht : t < n) => pt_bd hpb hn ht)
  clear hs hpb hn he hps
  obtain ⟨V1, hV1, ra, rb, b1, sz1⟩ := two_start w 28 28 [.int .i64 0, .int .i64 0] [.int .i64 0, .int .i64 0]
  obtain ⟨V2, hV2, rc, rd, b2, sz2⟩ := two_start V1 28 28 [.int .i64 0, .int .i64 1] [.int .i64 0, .int .i64 1]
  rw [sz1] at rc rd
  have HI := Lib.hid (show RpI w (0, 1) (0, 1) V2 from ⟨ra.below b2 ra.lt, rb.below b2 rb.lt, rc, rd, Below.andThen b1 b2 (Nat.le_refl _)⟩)
  rw [hV1] at hV2
  clear hV1 ra rb b1 sz1 rc rd b2 sz2
  go_enter Try.func48, Try.ntmps48
  go_wp2_with fail
  rw [← hV2]
  clear hV2
  go_loopw [6] (fun iv wr => ∃ i : Nat, i ≤ n ∧ iv = .int .i64 (i : Int) ∧ Hid (RpI w (nrK ps (prB n i 0)) (faK ps (prB n i 0)) wr)) (fun iv _ => (n - intOf iv).toNat)
  case atStart => exact ⟨0, by omega, rfl, by rw [prB_0]; exact HI⟩
  case round =>
    clear HI
    rename World => wi
    obtain ⟨i, hi, rfl, HB⟩ := hrel
    have iw : IntKind.i64.wrap ((i : Int) + 1) = ((i + 1 : Nat) : Int) := by rw [i64_of _ (by omega) (by omega)]; omega
    by_cases hit : i < n
    · have hd : decide ((i : Int) < (n : Int)) = true := decide_eq_true (by omega)
      have hdn : decide (i < n) = true := decide_eq_true hit
      have HIT := Lib.hid hit
      go_wp2_with fail
      go_loopw [7] (fun jv wr => ∃ q : Nat, q ≤ n - (i + 1) ∧ jv = .int .i64 ((i + 1 + q : Nat) : Int) ∧ Hid (RpI w (nrK ps (prB n i q)) (faK ps (prB n i q)) wr)) (fun jv _ => (n - intOf jv).toNat)
      case atStart => exact ⟨0, by omega, rfl, HB⟩
      case round =>
        clear HB
        rename World => wk
        obtain ⟨q, hq, rfl, HB⟩ := hrel
        obtain ⟨k, hk⟩ : ∃ k, i + 1 + q = k := ⟨_, rfl⟩
        have HK := Lib.hid hk
        have HQ := Lib.hid hq
        rw [hk]
        have hkn : k ≤ n := by omega
        clear hk hq
        have kw : IntKind.i64.wrap ((k : Int) + 1) = ((k + 1 : Nat) : Int) := by rw [i64_of _ (by omega) (by omega)]; omega
        by_cases hkt : k < n
        · have hd2 : decide ((k : Int) < (n : Int)) = true := decide_eq_true (by omega)
          have hdn2 : decide (k < n) = true := decide_eq_true hkt
          have hmem := prB_mem (n := n) (i := i) (k := q) HIT.out HQ.out
          have HNR := Lib.hid (nr_lt (ps := ps) h2 hmem)
          have HFA := Lib.hid (fa_lt (ps := ps) h2 hmem)
          have hst : prB n i (q + 1) = prB n i q ++ [(i, k)] := by rw [prB_step, HK.out]
          have HST := Lib.hid (show nrK ps (prB n i (q + 1)) = _ ∧ faK ps (prB n i (q + 1)) = _ from by rw [hst]; exact ⟨nrK_snoc ps _ _, faK_snoc ps _ _⟩)
          have HNI := Lib.hid (And.intro (show (i : Int) < (n : Int) by omega) (show (k : Int) < (n : Int) by omega))
          have HP0 := Lib.hid (HPT.out i hit)
          have HP1 := Lib.hid (HPT.out k hkt)
          have d0 := HBD.out i hit
          have d1 := HBD.out k hkt
          clear hmem hst
          obtain ⟨⟨n0, n1⟩, hn9⟩ : ∃ x, nrK ps (prB n i q) = x := ⟨_, rfl⟩
          obtain ⟨⟨f0, f1⟩, hf9⟩ : ∃ x, faK ps (prB n i q) = x := ⟨_, rfl⟩
          rw [hn9] at HB HNR HST
          rw [hf9] at HB HFA HST
          clear hn9 hf9
          have HPN0 := Lib.hid (HPT.out n0 HNR.out.1)
          have HPN1 := Lib.hid (HPT.out n1 HNR.out.2)
          have HPF0 := Lib.hid (HPT.out f0 HFA.out.1)
          have HPF1 := Lib.hid (HPT.out f1 HFA.out.2)
          have x0 := HBD.out n0 HNR.out.1
          have x1 := HBD.out n1 HNR.out.2
          have y0 := HBD.out f0 HFA.out.1
          have y1 := HBD.out f1 HFA.out.2
          have HNL := Lib.hid (And.intro (show (n0 : Int) < (n : Int) by have := HNR.out.1; dsimp only at this; omega) (show (n1 : Int) < (n : Int) by have := HNR.out.2; dsimp only at this; omega))
          have HFL := Lib.hid (And.intro (show (f0 : Int) < (n : Int) by have := HFA.out.1; dsimp only at this; omega) (show (f1 : Int) < (n : Int) by have := HFA.out.2; dsimp only at this; omega))
          have HD := Lib.hid (fun W : World => Far_any (ptAt ps i).1 (ptAt ps i).2 (ptAt ps k).1 (ptAt ps k).2 W d0.1 d0.2 d1.1 d1.2)
          have HDN := Lib.hid (fun W : World => Far_any (ptAt ps n0).1 (ptAt ps n0).2 (ptAt ps n1).1 (ptAt ps n1).2 W x0.1 x0.2 x1.1 x1.2)
          have HDF := Lib.hid (fun W : World => Far_any (ptAt ps f0).1 (ptAt ps f0).2 (ptAt ps f1).1 (ptAt ps f1).2 W y0.1 y0.2 y1.1 y1.2)
          have e1 : fd ((ptAt ps i).1, (ptAt ps i).2) ((ptAt ps k).1, (ptAt ps k).2) = pdF ps (i, k) := fd_swap _ _
          have e2 : fd ((ptAt ps n0).1, (ptAt ps n0).2) ((ptAt ps n1).1, (ptAt ps n1).2) = pdF ps (n0, n1) := fd_swap _ _
          have e3 : fd ((ptAt ps f0).1, (ptAt ps f0).2) ((ptAt ps f1).1, (ptAt ps f1).2) = pdF ps (f0, f1) := fd_swap _ _
          rw [e1] at HD
          rw [e2] at HDN
          rw [e3] at HDF
          clear e1 e2 e3 d0 d1 x0 x1 y0 y1
          generalize pdF ps (i, k) = DX at *
          generalize pdF ps (n0, n1) = DN at *
          generalize pdF ps (f0, f1) = DF at *
          generalize ptAt ps i = p0 at *
          generalize ptAt ps k = p1 at *
          generalize ptAt ps n0 = p2 at *
          generalize ptAt ps n1 = p3 at *
          generalize ptAt ps f0 = p4 at *
          generalize ptAt ps f1 = p5 at *
          obtain ⟨E, hE⟩ : ∃ E, decide (DX < DN) = E := ⟨_, rfl⟩
          obtain ⟨F, hF⟩ : ∃ F, decide (DX > DF) = F := ⟨_, rfl⟩
          have hF2 : decide (DF < DX) = F := hF
          have HEE := Lib.hid hE
          have HFF := Lib.hid (And.intro hF hF2)
          have HNN := Lib.hid (show nrK ps (prB n i (q + 1)) = if E = true then (i, k) else (n0, n1) by rw [HST.out.1, ← hE]; simp)
          have HFN := Lib.hid (show faK ps (prB n i (q + 1)) = if F = true then (i, k) else (f0, f1) by rw [HST.out.2, ← hF]; simp)
          obtain ⟨a0, b0⟩ := p0
          obtain ⟨a1, b1⟩ := p1
          obtain ⟨a2, b2⟩ := p2
          obtain ⟨a3, b3⟩ := p3
          obtain ⟨a4, b4⟩ := p4
          obtain ⟨a5, b5⟩ := p5
          dsimp only at HP0 HP1 HPN0 HPN1 HPF0 HPF1 HD HDN HDF
          clear hE hF hF2 HST
          go_wp2_with fail
          refine wp_region_box (by kernel_rfl) (by kernel_rfl) [25, 26, 27, 28, 29, 30, 31, 32, 33, 8] [(fun v => v = .slice (some ⟨g, o, none⟩) n c), (fun v => v = .int .i64 (i : Int)), (fun v => v = .pointer (some ⟨g, o + i * 2, none⟩)), (fun v => v = .agg #[.int .i64 a0, .int .i64 b0]), (fun v => v = .slice (some ⟨g, o, none⟩) n c), (fun v => v = .int .i64 (k : Int)), (fun v => v = .pointer (some ⟨g, o + k * 2, none⟩)), (fun v => v = .agg #[.int .i64 a1, .int .i64 b1]), (fun v => v = .int .i64 DX), (fun v => v = .int .i64 DX)] [none, none, none, none, none, none, none, none, none, none] [none, none, none, none, none, none, none, none, none, none] 10 rfl (by kernel_rfl) ?tr ⟨_, (putAll_self _ _).symm, rfl⟩ ?steps ?fin
          case tr =>
            rintro i v h
            rcases i with _ | _ | _ | _ | _ | _ | _ | _ | _ | _ | i
            all_goals first | trivial | (exfalso; rcases h with h | h <;> simp at h)
          case steps =>
            simp only [boxSteps, Nat.reduceAdd, Nat.zero_add, List.getD_cons_succ, List.getD_cons_zero]
            refine ⟨?_, ?_, ?_, ?_, ?_, ?_, ?_, ?_, ?_, ?_, trivial⟩
            · rintro vs W K hc hvl hw hK
              obtain ⟨x0, x1, x2, x3, x4, x5, x6, x7, x8, x9, rfl⟩ := len10 hvl
              have HK := Lib.hid hK
              have HC := Lib.hid hc
              have HW := Lib.hid hw
              clear hK hc hw hvl
              simp only [putAll, Act.put, List.setIfInBounds_toArray, List.set_cons_succ, List.set_cons_zero]
              clear HW
              go_wp2_with fail
              have fin := HK.out (.slice (some ⟨g, o, none⟩) n c) W (Below.refl _ _) rfl
              simp only [putAll, Act.put, List.setIfInBounds_toArray, List.set_cons_succ, List.set_cons_zero] at fin
              exact fin
            · rintro vs W K hc hvl hw hK
              obtain ⟨x0, x1, x2, x3, x4, x5, x6, x7, x8, x9, rfl⟩ := len10 hvl
              have HK := Lib.hid hK
              have HC := Lib.hid hc
              have HW := Lib.hid hw
              clear hK hc hw hvl
              simp only [putAll, Act.put, List.setIfInBounds_toArray, List.set_cons_succ, List.set_cons_zero]
              clear HW
              go_wp2_with fail
              have fin := HK.out (.int .i64 (i : Int)) W (Below.refl _ _) rfl
              simp only [putAll, Act.put, List.setIfInBounds_toArray, List.set_cons_succ, List.set_cons_zero] at fin
              exact fin
            · rintro vs W K hc hvl hw hK
              obtain ⟨x0, x1, x2, x3, x4, x5, x6, x7, x8, x9, rfl⟩ := len10 hvl
              have HK := Lib.hid hK
              have HC := Lib.hid hc
              have HW := Lib.hid hw
              clear hK hc hw hvl
              obtain rfl : x0 = .slice (some ⟨g, o, none⟩) n c := box_get (HW.out ⟨0, .data⟩ (by simp) rfl) rfl
              obtain rfl : x1 = .int .i64 (i : Int) := box_get (HW.out ⟨1, .data⟩ (by simp) rfl) rfl
              simp only [putAll, Act.put, List.setIfInBounds_toArray, List.set_cons_succ, List.set_cons_zero]
              have hi1 := HNI.out.1
              clear HW
              go_wp2_with fail
              have fin := HK.out (.pointer (some ⟨g, o + i * 2, none⟩)) W (Below.refl _ _) rfl
              simp only [putAll, Act.put, List.setIfInBounds_toArray, List.set_cons_succ, List.set_cons_zero] at fin
              exact fin
            · rintro vs W K hc hvl hw hK
              obtain ⟨x0, x1, x2, x3, x4, x5, x6, x7, x8, x9, rfl⟩ := len10 hvl
              have HK := Lib.hid hK
              have HC := Lib.hid hc
              have HW := Lib.hid hw
              clear hK hc hw hvl
              obtain rfl : x2 = .pointer (some ⟨g, o + i * 2, none⟩) := box_get (HW.out ⟨2, .data⟩ (by simp) rfl) rfl
              simp only [putAll, Act.put, List.setIfInBounds_toArray, List.set_cons_succ, List.set_cons_zero]
              have d0 := (HP0.out W (Below.andThen HB.out.bl HC.out (Nat.le_refl _))).1
              have d1 := (HP0.out W (Below.andThen HB.out.bl HC.out (Nat.le_refl _))).2
              clear HW
              go_wp2_with fail
              have fin := HK.out (.agg #[.int .i64 a0, .int .i64 b0]) W (Below.refl _ _) rfl
              simp only [putAll, Act.put, List.setIfInBounds_toArray, List.set_cons_succ, List.set_cons_zero] at fin
              exact fin
            · rintro vs W K hc hvl hw hK
              obtain ⟨x0, x1, x2, x3, x4, x5, x6, x7, x8, x9, rfl⟩ := len10 hvl
              have HK := Lib.hid hK
              have HC := Lib.hid hc
              have HW := Lib.hid hw
              clear hK hc hw hvl
              simp only [putAll, Act.put, List.setIfInBounds_toArray, List.set_cons_succ, List.set_cons_zero]
              clear HW
              go_wp2_with fail
              have fin := HK.out (.slice (some ⟨g, o, none⟩) n c) W (Below.refl _ _) rfl
              simp only [putAll, Act.put, List.setIfInBounds_toArray, List.set_cons_succ, List.set_cons_zero] at fin
              exact fin
            · rintro vs W K hc hvl hw hK
              obtain ⟨x0, x1, x2, x3, x4, x5, x6, x7, x8, x9, rfl⟩ := len10 hvl
              have HK := Lib.hid hK
              have HC := Lib.hid hc
              have HW := Lib.hid hw
              clear hK hc hw hvl
              simp only [putAll, Act.put, List.setIfInBounds_toArray, List.set_cons_succ, List.set_cons_zero]
              clear HW
              go_wp2_with fail
              have fin := HK.out (.int .i64 (k : Int)) W (Below.refl _ _) rfl
              simp only [putAll, Act.put, List.setIfInBounds_toArray, List.set_cons_succ, List.set_cons_zero] at fin
              exact fin
            · rintro vs W K hc hvl hw hK
              obtain ⟨x0, x1, x2, x3, x4, x5, x6, x7, x8, x9, rfl⟩ := len10 hvl
              have HK := Lib.hid hK
              have HC := Lib.hid hc
              have HW := Lib.hid hw
              clear hK hc hw hvl
              obtain rfl : x4 = .slice (some ⟨g, o, none⟩) n c := box_get (HW.out ⟨4, .data⟩ (by simp) rfl) rfl
              obtain rfl : x5 = .int .i64 (k : Int) := box_get (HW.out ⟨5, .data⟩ (by simp) rfl) rfl
              simp only [putAll, Act.put, List.setIfInBounds_toArray, List.set_cons_succ, List.set_cons_zero]
              have hi1 := HNI.out.2
              clear HW
              go_wp2_with fail
              have fin := HK.out (.pointer (some ⟨g, o + k * 2, none⟩)) W (Below.refl _ _) rfl
              simp only [putAll, Act.put, List.setIfInBounds_toArray, List.set_cons_succ, List.set_cons_zero] at fin
              exact fin
            · rintro vs W K hc hvl hw hK
              obtain ⟨x0, x1, x2, x3, x4, x5, x6, x7, x8, x9, rfl⟩ := len10 hvl
              have HK := Lib.hid hK
              have HC := Lib.hid hc
              have HW := Lib.hid hw
              clear hK hc hw hvl
              obtain rfl : x6 = .pointer (some ⟨g, o + k * 2, none⟩) := box_get (HW.out ⟨6, .data⟩ (by simp) rfl) rfl
              simp only [putAll, Act.put, List.setIfInBounds_toArray, List.set_cons_succ, List.set_cons_zero]
              have d0 := (HP1.out W (Below.andThen HB.out.bl HC.out (Nat.le_refl _))).1
              have d1 := (HP1.out W (Below.andThen HB.out.bl HC.out (Nat.le_refl _))).2
              clear HW
              go_wp2_with fail
              have fin := HK.out (.agg #[.int .i64 a1, .int .i64 b1]) W (Below.refl _ _) rfl
              simp only [putAll, Act.put, List.setIfInBounds_toArray, List.set_cons_succ, List.set_cons_zero] at fin
              exact fin
            · rintro vs W K hc hvl hw hK
              obtain ⟨x0, x1, x2, x3, x4, x5, x6, x7, x8, x9, rfl⟩ := len10 hvl
              have HK := Lib.hid hK
              have HC := Lib.hid hc
              have HW := Lib.hid hw
              clear hK hc hw hvl
              obtain rfl : x3 = .agg #[.int .i64 a0, .int .i64 b0] := box_get (HW.out ⟨3, .data⟩ (by simp) rfl) rfl
              obtain rfl : x7 = .agg #[.int .i64 a1, .int .i64 b1] := box_get (HW.out ⟨7, .data⟩ (by simp) rfl) rfl
              simp only [putAll, Act.put, List.setIfInBounds_toArray, List.set_cons_succ, List.set_cons_zero]
              clear HW
              go_wp2_with fail
              refine (HD.out W).mono ?_
              rintro e W' ⟨rfl, hb'⟩
              have HB' := Lib.hid hb'
              clear hb'
              go_wp2_with fail
              have fin := HK.out (.int .i64 DX) W' HB'.out rfl
              simp only [putAll, Act.put, List.setIfInBounds_toArray, List.set_cons_succ, List.set_cons_zero] at fin
              exact fin
            · rintro vs W K hc hvl hw hK
              obtain ⟨x0, x1, x2, x3, x4, x5, x6, x7, x8, x9, rfl⟩ := len10 hvl
              have HK := Lib.hid hK
              have HC := Lib.hid hc
              have HW := Lib.hid hw
              clear hK hc hw hvl
              obtain rfl : x8 = .int .i64 DX := box_get (HW.out ⟨8, .data⟩ (by simp) rfl) rfl
              simp only [putAll, Act.put, List.setIfInBounds_toArray, List.set_cons_succ, List.set_cons_zero]
              clear HW
              go_wp2_with fail
              have fin := HK.out (.int .i64 DX) W (Below.refl _ _) rfl
              simp only [putAll, Act.put, List.setIfInBounds_toArray, List.set_cons_succ, List.set_cons_zero] at fin
              exact fin
          case fin =>
            rintro vs W hJ
            obtain ⟨x0, x1, x2, x3, x4, x5, x6, x7, x8, x9, rfl⟩ := len10 hJ.ln
            obtain rfl : x9 = .int .i64 DX := box_get (hJ.val 9 rfl) rfl
            have HC := Lib.hid hJ.bl
            clear hJ
            simp only [putAll, Act.put, List.setIfInBounds_toArray, List.set_cons_succ, List.set_cons_zero]
            have HP8 := Lib.hid (HB.out.grow HC.out)
            clear HC HB
            go_wp2_with fail
            refine wp_region_box (by kernel_rfl) (by kernel_rfl) [34, 35, 36, 37, 38, 39, 40, 41, 42, 43, 44, 45, 46] [(fun v => v = .int .i64 DX), (fun v => v = .slice (some ⟨g, o, none⟩) n c), (fun v => v = .pointer (some ⟨w.heap.size + 1 + 1, 0, none⟩)), (fun v => v = .int .i64 (n0 : Int)), (fun v => v = .pointer (some ⟨g, o + n0 * 2, none⟩)), (fun v => v = .agg #[.int .i64 a2, .int .i64 b2]), (fun v => v = .slice (some ⟨g, o, none⟩) n c), (fun v => v = .pointer (some ⟨w.heap.size + 1 + 1, 1, none⟩)), (fun v => v = .int .i64 (n1 : Int)), (fun v => v = .pointer (some ⟨g, o + n1 * 2, none⟩)), (fun v => v = .agg #[.int .i64 a3, .int .i64 b3]), (fun v => v = .int .i64 DN), (fun v => v = .bool E)] [none, none, none, none, none, none, none, none, none, none, none, none, none] [none, none, none, none, none, none, none, none, none, none, none, none, none] 13 rfl (by kernel_rfl) ?tr ⟨_, (putAll_self _ _).symm, rfl⟩ ?steps ?fin
            case tr =>
              rintro i v h
              rcases i with _ | _ | _ | _ | _ | _ | _ | _ | _ | _ | _ | _ | _ | i
              all_goals first | trivial | (exfalso; rcases h with h | h <;> simp at h)
            case steps =>
              simp only [boxSteps, Nat.reduceAdd, Nat.zero_add, List.getD_cons_succ, List.getD_cons_zero]
              refine ⟨?_, ?_, ?_, ?_, ?_, ?_, ?_, ?_, ?_, ?_, ?_, ?_, ?_, trivial⟩
              · rintro vs W K hc hvl hw hK
                obtain ⟨x0, x1, x2, x3, x4, x5, x6, x7, x8, x9, x10, x11, x12, rfl⟩ := len13 hvl
                have HK := Lib.hid hK
                have HC := Lib.hid hc
                have HW := Lib.hid hw
                clear hK hc hw hvl
                simp only [putAll, Act.put, List.setIfInBounds_toArray, List.set_cons_succ, List.set_cons_zero]
                clear HW
                go_wp2_with fail
                have fin := HK.out (.int .i64 DX) W (Below.refl _ _) rfl
                simp only [putAll, Act.put, List.setIfInBounds_toArray, List.set_cons_succ, List.set_cons_zero] at fin
                exact fin
              · rintro vs W K hc hvl hw hK
                obtain ⟨x0, x1, x2, x3, x4, x5, x6, x7, x8, x9, x10, x11, x12, rfl⟩ := len13 hvl
                have HK := Lib.hid hK
                have HC := Lib.hid hc
                have HW := Lib.hid hw
                clear hK hc hw hvl
                simp only [putAll, Act.put, List.setIfInBounds_toArray, List.set_cons_succ, List.set_cons_zero]
                clear HW
                go_wp2_with fail
                have fin := HK.out (.slice (some ⟨g, o, none⟩) n c) W (Below.refl _ _) rfl
                simp only [putAll, Act.put, List.setIfInBounds_toArray, List.set_cons_succ, List.set_cons_zero] at fin
                exact fin
              · rintro vs W K hc hvl hw hK
                obtain ⟨x0, x1, x2, x3, x4, x5, x6, x7, x8, x9, x10, x11, x12, rfl⟩ := len13 hvl
                have HK := Lib.hid hK
                have HC := Lib.hid hc
                have HW := Lib.hid hw
                clear hK hc hw hvl
                simp only [putAll, Act.put, List.setIfInBounds_toArray, List.set_cons_succ, List.set_cons_zero]
                clear HW
                go_wp2_with fail
                have fin := HK.out (.pointer (some ⟨w.heap.size + 1 + 1, 0, none⟩)) W (Below.refl _ _) rfl
                simp only [putAll, Act.put, List.setIfInBounds_toArray, List.set_cons_succ, List.set_cons_zero] at fin
                exact fin
              · rintro vs W K hc hvl hw hK
                obtain ⟨x0, x1, x2, x3, x4, x5, x6, x7, x8, x9, x10, x11, x12, rfl⟩ := len13 hvl
                have HK := Lib.hid hK
                have HC := Lib.hid hc
                have HW := Lib.hid hw
                clear hK hc hw hvl
                obtain rfl : x2 = .pointer (some ⟨w.heap.size + 1 + 1, 0, none⟩) := box_get (HW.out ⟨2, .data⟩ (by simp) rfl) rfl
                simp only [putAll, Act.put, List.setIfInBounds_toArray, List.set_cons_succ, List.set_cons_zero]
                have rr := (HP8.out.grow HC.out).nr
                have d0 := rr.cell 0
                simp only [List.getElem?_cons_zero] at d0
                clear rr
                clear HW
                go_wp2_with fail
                have fin := HK.out (.int .i64 (n0 : Int)) W (Below.refl _ _) rfl
                simp only [putAll, Act.put, List.setIfInBounds_toArray, List.set_cons_succ, List.set_cons_zero] at fin
                exact fin
              · rintro vs W K hc hvl hw hK
                obtain ⟨x0, x1, x2, x3, x4, x5, x6, x7, x8, x9, x10, x11, x12, rfl⟩ := len13 hvl
                have HK := Lib.hid hK
                have HC := Lib.hid hc
                have HW := Lib.hid hw
                clear hK hc hw hvl
                obtain rfl : x1 = .slice (some ⟨g, o, none⟩) n c := box_get (HW.out ⟨1, .data⟩ (by simp) rfl) rfl
                obtain rfl : x3 = .int .i64 (n0 : Int) := box_get (HW.out ⟨3, .data⟩ (by simp) rfl) rfl
                simp only [putAll, Act.put, List.setIfInBounds_toArray, List.set_cons_succ, List.set_cons_zero]
                have hi1 := HNL.out.1
                clear HW
                go_wp2_with fail
                have fin := HK.out (.pointer (some ⟨g, o + n0 * 2, none⟩)) W (Below.refl _ _) rfl
                simp only [putAll, Act.put, List.setIfInBounds_toArray, List.set_cons_succ, List.set_cons_zero] at fin
                exact fin
              · rintro vs W K hc hvl hw hK
                obtain ⟨x0, x1, x2, x3, x4, x5, x6, x7, x8, x9, x10, x11, x12, rfl⟩ := len13 hvl
                have HK := Lib.hid hK
                have HC := Lib.hid hc
                have HW := Lib.hid hw
                clear hK hc hw hvl
                obtain rfl : x4 = .pointer (some ⟨g, o + n0 * 2, none⟩) := box_get (HW.out ⟨4, .data⟩ (by simp) rfl) rfl
                simp only [putAll, Act.put, List.setIfInBounds_toArray, List.set_cons_succ, List.set_cons_zero]
                have d0 := (HPN0.out W (Below.andThen HP8.out.bl HC.out (Nat.le_refl _))).1
                have d1 := (HPN0.out W (Below.andThen HP8.out.bl HC.out (Nat.le_refl _))).2
                clear HW
                go_wp2_with fail
                have fin := HK.out (.agg #[.int .i64 a2, .int .i64 b2]) W (Below.refl _ _) rfl
                simp only [putAll, Act.put, List.setIfInBounds_toArray, List.set_cons_succ, List.set_cons_zero] at fin
                exact fin
              · rintro vs W K hc hvl hw hK
                obtain ⟨x0, x1, x2, x3, x4, x5, x6, x7, x8, x9, x10, x11, x12, rfl⟩ := len13 hvl
                have HK := Lib.hid hK
                have HC := Lib.hid hc
                have HW := Lib.hid hw
                clear hK hc hw hvl
                simp only [putAll, Act.put, List.setIfInBounds_toArray, List.set_cons_succ, List.set_cons_zero]
                clear HW
                go_wp2_with fail
                have fin := HK.out (.slice (some ⟨g, o, none⟩) n c) W (Below.refl _ _) rfl
                simp only [putAll, Act.put, List.setIfInBounds_toArray, List.set_cons_succ, List.set_cons_zero] at fin
                exact fin
              · rintro vs W K hc hvl hw hK
                obtain ⟨x0, x1, x2, x3, x4, x5, x6, x7, x8, x9, x10, x11, x12, rfl⟩ := len13 hvl
                have HK := Lib.hid hK
                have HC := Lib.hid hc
                have HW := Lib.hid hw
                clear hK hc hw hvl
                simp only [putAll, Act.put, List.setIfInBounds_toArray, List.set_cons_succ, List.set_cons_zero]
                clear HW
                go_wp2_with fail
                have fin := HK.out (.pointer (some ⟨w.heap.size + 1 + 1, 1, none⟩)) W (Below.refl _ _) rfl
                simp only [putAll, Act.put, List.setIfInBounds_toArray, List.set_cons_succ, List.set_cons_zero] at fin
                exact fin
              · rintro vs W K hc hvl hw hK
                obtain ⟨x0, x1, x2, x3, x4, x5, x6, x7, x8, x9, x10, x11, x12, rfl⟩ := len13 hvl
                have HK := Lib.hid hK
                have HC := Lib.hid hc
                have HW := Lib.hid hw
                clear hK hc hw hvl
                obtain rfl : x7 = .pointer (some ⟨w.heap.size + 1 + 1, 1, none⟩) := box_get (HW.out ⟨7, .data⟩ (by simp) rfl) rfl
                simp only [putAll, Act.put, List.setIfInBounds_toArray, List.set_cons_succ, List.set_cons_zero]
                have rr := (HP8.out.grow HC.out).nr
                have d0 := rr.cell 1
                simp only [List.getElem?_cons_zero, List.getElem?_cons_succ] at d0
                clear rr
                clear HW
                go_wp2_with fail
                have fin := HK.out (.int .i64 (n1 : Int)) W (Below.refl _ _) rfl
                simp only [putAll, Act.put, List.setIfInBounds_toArray, List.set_cons_succ, List.set_cons_zero] at fin
                exact fin
              · rintro vs W K hc hvl hw hK
                obtain ⟨x0, x1, x2, x3, x4, x5, x6, x7, x8, x9, x10, x11, x12, rfl⟩ := len13 hvl
                have HK := Lib.hid hK
                have HC := Lib.hid hc
                have HW := Lib.hid hw
                clear hK hc hw hvl
                obtain rfl : x6 = .slice (some ⟨g, o, none⟩) n c := box_get (HW.out ⟨6, .data⟩ (by simp) rfl) rfl
                obtain rfl : x8 = .int .i64 (n1 : Int) := box_get (HW.out ⟨8, .data⟩ (by simp) rfl) rfl
                simp only [putAll, Act.put, List.setIfInBounds_toArray, List.set_cons_succ, List.set_cons_zero]
                have hi1 := HNL.out.2
                clear HW
                go_wp2_with fail
                have fin := HK.out (.pointer (some ⟨g, o + n1 * 2, none⟩)) W (Below.refl _ _) rfl
                simp only [putAll, Act.put, List.setIfInBounds_toArray, List.set_cons_succ, List.set_cons_zero] at fin
                exact fin
              · rintro vs W K hc hvl hw hK
                obtain ⟨x0, x1, x2, x3, x4, x5, x6, x7, x8, x9, x10, x11, x12, rfl⟩ := len13 hvl
                have HK := Lib.hid hK
                have HC := Lib.hid hc
                have HW := Lib.hid hw
                clear hK hc hw hvl
                obtain rfl : x9 = .pointer (some ⟨g, o + n1 * 2, none⟩) := box_get (HW.out ⟨9, .data⟩ (by simp) rfl) rfl
                simp only [putAll, Act.put, List.setIfInBounds_toArray, List.set_cons_succ, List.set_cons_zero]
                have d0 := (HPN1.out W (Below.andThen HP8.out.bl HC.out (Nat.le_refl _))).1
                have d1 := (HPN1.out W (Below.andThen HP8.out.bl HC.out (Nat.le_refl _))).2
                clear HW
                go_wp2_with fail
                have fin := HK.out (.agg #[.int .i64 a3, .int .i64 b3]) W (Below.refl _ _) rfl
                simp only [putAll, Act.put, List.setIfInBounds_toArray, List.set_cons_succ, List.set_cons_zero] at fin
                exact fin
              · rintro vs W K hc hvl hw hK
                obtain ⟨x0, x1, x2, x3, x4, x5, x6, x7, x8, x9, x10, x11, x12, rfl⟩ := len13 hvl
                have HK := Lib.hid hK
                have HC := Lib.hid hc
                have HW := Lib.hid hw
                clear hK hc hw hvl
                obtain rfl : x5 = .agg #[.int .i64 a2, .int .i64 b2] := box_get (HW.out ⟨5, .data⟩ (by simp) rfl) rfl
                obtain rfl : x10 = .agg #[.int .i64 a3, .int .i64 b3] := box_get (HW.out ⟨10, .data⟩ (by simp) rfl) rfl
                simp only [putAll, Act.put, List.setIfInBounds_toArray, List.set_cons_succ, List.set_cons_zero]
                clear HW
                go_wp2_with fail
                refine (HDN.out W).mono ?_
                rintro e W' ⟨rfl, hb'⟩
                have HB' := Lib.hid hb'
                clear hb'
                go_wp2_with fail
                have fin := HK.out (.int .i64 DN) W' HB'.out rfl
                simp only [putAll, Act.put, List.setIfInBounds_toArray, List.set_cons_succ, List.set_cons_zero] at fin
                exact fin
              · rintro vs W K hc hvl hw hK
                obtain ⟨x0, x1, x2, x3, x4, x5, x6, x7, x8, x9, x10, x11, x12, rfl⟩ := len13 hvl
                have HK := Lib.hid hK
                have HC := Lib.hid hc
                have HW := Lib.hid hw
                clear hK hc hw hvl
                obtain rfl : x0 = .int .i64 DX := box_get (HW.out ⟨0, .data⟩ (by simp) rfl) rfl
                obtain rfl : x11 = .int .i64 DN := box_get (HW.out ⟨11, .data⟩ (by simp) rfl) rfl
                simp only [putAll, Act.put, List.setIfInBounds_toArray, List.set_cons_succ, List.set_cons_zero]
                have e1 := HEE.out
                clear HW
                go_wp2_with fail
                have fin := HK.out (.bool E) W (Below.refl _ _) rfl
                simp only [putAll, Act.put, List.setIfInBounds_toArray, List.set_cons_succ, List.set_cons_zero] at fin
                exact fin
            case fin =>
              rintro vs W hJ
              obtain ⟨x0, x1, x2, x3, x4, x5, x6, x7, x8, x9, x10, x11, x12, rfl⟩ := len13 hJ.ln
              obtain rfl : x12 = .bool E := box_get (hJ.val 12 rfl) rfl
              have HC := Lib.hid hJ.bl
              clear hJ
              simp only [putAll, Act.put, List.setIfInBounds_toArray, List.set_cons_succ, List.set_cons_zero]
              have HP2 := Lib.hid (HP8.out.grow HC.out)
              clear HC HP8
              cases E with
              | true =>
                have q9 := HP2.out.nr
                have c0 := q9.cell 0
                have c1 := q9.cell 1
                have z0 := frozen_of_row _ (w.heap.size + 1 + 1) 0 _ _ q9
                have z1 := frozen_of_row _ (w.heap.size + 1 + 1) 1 _ _ q9
                simp only [List.getElem?_cons_zero, List.getElem?_cons_succ] at c0 c1
                clear q9
                obtain ⟨W4, hW4⟩ : ∃ Wz, (W.setCell ⟨w.heap.size + 1 + 1, 0, none⟩ (.int .i64 (i : Int))).setCell ⟨w.heap.size + 1 + 1, 1, none⟩ (.int .i64 (k : Int)) = Wz := ⟨_, rfl⟩
                have HW4 := Lib.hid hW4
                have p4 := HP2.out.setNr (i, k)
                dsimp only at p4
                rw [hW4] at p4
                have HP5 := Lib.hid p4
                clear hW4 p4 HP2
                go_wp2_with fail
                rw [HW4.out]
                clear c0 c1 z0 z1 HW4
                refine wp_region_box (by kernel_rfl) (by kernel_rfl) [50, 51, 52, 53, 54, 55, 56, 57, 58, 59, 60, 61, 62] [(fun v => v = .int .i64 DX), (fun v => v = .slice (some ⟨g, o, none⟩) n c), (fun v => v = .pointer (some ⟨w.heap.size + 1 + 1 + 1, 0, none⟩)), (fun v => v = .int .i64 (f0 : Int)), (fun v => v = .pointer (some ⟨g, o + f0 * 2, none⟩)), (fun v => v = .agg #[.int .i64 a4, .int .i64 b4]), (fun v => v = .slice (some ⟨g, o, none⟩) n c), (fun v => v = .pointer (some ⟨w.heap.size + 1 + 1 + 1, 1, none⟩)), (fun v => v = .int .i64 (f1 : Int)), (fun v => v = .pointer (some ⟨g, o + f1 * 2, none⟩)), (fun v => v = .agg #[.int .i64 a5, .int .i64 b5]), (fun v => v = .int .i64 DF), (fun v => v = .bool F)] [none, none, none, none, none, none, none, none, none, none, none, none, none] [none, none, none, none, none, none, none, none, none, none, none, none, none] 13 rfl (by kernel_rfl) ?tr ⟨_, (putAll_self _ _).symm, rfl⟩ ?steps ?fin
                case tr =>
                  rintro i v h
                  rcases i with _ | _ | _ | _ | _ | _ | _ | _ | _ | _ | _ | _ | _ | i
                  all_goals first | trivial | (exfalso; rcases h with h | h <;> simp at h)
                case steps =>
                  simp only [boxSteps, Nat.reduceAdd, Nat.zero_add, List.getD_cons_succ, List.getD_cons_zero]
                  refine ⟨?_, ?_, ?_, ?_, ?_, ?_, ?_, ?_, ?_, ?_, ?_, ?_, ?_, trivial⟩
                  · rintro vs W K hc hvl hw hK
                    obtain ⟨x0, x1, x2, x3, x4, x5, x6, x7, x8, x9, x10, x11, x12, rfl⟩ := len13 hvl
                    have HK := Lib.hid hK
                    have HC := Lib.hid hc
                    have HW := Lib.hid hw
                    clear hK hc hw hvl
                    simp only [putAll, Act.put, List.setIfInBounds_toArray, List.set_cons_succ, List.set_cons_zero]
                    clear HW
                    go_wp2_with fail
                    have fin := HK.out (.int .i64 DX) W (Below.refl _ _) rfl
                    simp only [putAll, Act.put, List.setIfInBounds_toArray, List.set_cons_succ, List.set_cons_zero] at fin
                    exact fin
                  · rintro vs W K hc hvl hw hK
                    obtain ⟨x0, x1, x2, x3, x4, x5, x6, x7, x8, x9, x10, x11, x12, rfl⟩ := len13 hvl
                    have HK := Lib.hid hK
                    have HC := Lib.hid hc
                    have HW := Lib.hid hw
                    clear hK hc hw hvl
                    simp only [putAll, Act.put, List.setIfInBounds_toArray, List.set_cons_succ, List.set_cons_zero]
                    clear HW
                    go_wp2_with fail
                    have fin := HK.out (.slice (some ⟨g, o, none⟩) n c) W (Below.refl _ _) rfl
                    simp only [putAll, Act.put, List.setIfInBounds_toArray, List.set_cons_succ, List.set_cons_zero] at fin
                    exact fin
                  · rintro vs W K hc hvl hw hK
                    obtain ⟨x0, x1, x2, x3, x4, x5, x6, x7, x8, x9, x10, x11, x12, rfl⟩ := len13 hvl
                    have HK := Lib.hid hK
                    have HC := Lib.hid hc
                    have HW := Lib.hid hw
                    clear hK hc hw hvl
                    simp only [putAll, Act.put, List.setIfInBounds_toArray, List.set_cons_succ, List.set_cons_zero]
                    clear HW
                    go_wp2_with fail
                    have fin := HK.out (.pointer (some ⟨w.heap.size + 1 + 1 + 1, 0, none⟩)) W (Below.refl _ _) rfl
                    simp only [putAll, Act.put, List.setIfInBounds_toArray, List.set_cons_succ, List.set_cons_zero] at fin
                    exact fin
                  · rintro vs W K hc hvl hw hK
                    obtain ⟨x0, x1, x2, x3, x4, x5, x6, x7, x8, x9, x10, x11, x12, rfl⟩ := len13 hvl
                    have HK := Lib.hid hK
                    have HC := Lib.hid hc
                    have HW := Lib.hid hw
                    clear hK hc hw hvl
                    obtain rfl : x2 = .pointer (some ⟨w.heap.size + 1 + 1 + 1, 0, none⟩) := box_get (HW.out ⟨2, .data⟩ (by simp) rfl) rfl
                    simp only [putAll, Act.put, List.setIfInBounds_toArray, List.set_cons_succ, List.set_cons_zero]
                    have rr := (HP5.out.grow HC.out).fa
                    have d0 := rr.cell 0
                    simp only [List.getElem?_cons_zero] at d0
                    clear rr
                    clear HW
                    go_wp2_with fail
                    have fin := HK.out (.int .i64 (f0 : Int)) W (Below.refl _ _) rfl
                    simp only [putAll, Act.put, List.setIfInBounds_toArray, List.set_cons_succ, List.set_cons_zero] at fin
                    exact fin
                  · rintro vs W K hc hvl hw hK
                    obtain ⟨x0, x1, x2, x3, x4, x5, x6, x7, x8, x9, x10, x11, x12, rfl⟩ := len13 hvl
                    have HK := Lib.hid hK
                    have HC := Lib.hid hc
                    have HW := Lib.hid hw
                    clear hK hc hw hvl
                    obtain rfl : x1 = .slice (some ⟨g, o, none⟩) n c := box_get (HW.out ⟨1, .data⟩ (by simp) rfl) rfl
                    obtain rfl : x3 = .int .i64 (f0 : Int) := box_get (HW.out ⟨3, .data⟩ (by simp) rfl) rfl
                    simp only [putAll, Act.put, List.setIfInBounds_toArray, List.set_cons_succ, List.set_cons_zero]
                    have hi1 := HFL.out.1
                    clear HW
                    go_wp2_with fail
                    have fin := HK.out (.pointer (some ⟨g, o + f0 * 2, none⟩)) W (Below.refl _ _) rfl
                    simp only [putAll, Act.put, List.setIfInBounds_toArray, List.set_cons_succ, List.set_cons_zero] at fin
                    exact fin
                  · rintro vs W K hc hvl hw hK
                    obtain ⟨x0, x1, x2, x3, x4, x5, x6, x7, x8, x9, x10, x11, x12, rfl⟩ := len13 hvl
                    have HK := Lib.hid hK
                    have HC := Lib.hid hc
                    have HW := Lib.hid hw
                    clear hK hc hw hvl
                    obtain rfl : x4 = .pointer (some ⟨g, o + f0 * 2, none⟩) := box_get (HW.out ⟨4, .data⟩ (by simp) rfl) rfl
                    simp only [putAll, Act.put, List.setIfInBounds_toArray, List.set_cons_succ, List.set_cons_zero]
                    have d0 := (HPF0.out W (Below.andThen HP5.out.bl HC.out (Nat.le_refl _))).1
                    have d1 := (HPF0.out W (Below.andThen HP5.out.bl HC.out (Nat.le_refl _))).2
                    clear HW
                    go_wp2_with fail
                    have fin := HK.out (.agg #[.int .i64 a4, .int .i64 b4]) W (Below.refl _ _) rfl
                    simp only [putAll, Act.put, List.setIfInBounds_toArray, List.set_cons_succ, List.set_cons_zero] at fin
                    exact fin
                  · rintro vs W K hc hvl hw hK
                    obtain ⟨x0, x1, x2, x3, x4, x5, x6, x7, x8, x9, x10, x11, x12, rfl⟩ := len13 hvl
                    have HK := Lib.hid hK
                    have HC := Lib.hid hc
                    have HW := Lib.hid hw
                    clear hK hc hw hvl
                    simp only [putAll, Act.put, List.setIfInBounds_toArray, List.set_cons_succ, List.set_cons_zero]
                    clear HW
                    go_wp2_with fail
                    have fin := HK.out (.slice (some ⟨g, o, none⟩) n c) W (Below.refl _ _) rfl
                    simp only [putAll, Act.put, List.setIfInBounds_toArray, List.set_cons_succ, List.set_cons_zero] at fin
                    exact fin
                  · rintro vs W K hc hvl hw hK
                    obtain ⟨x0, x1, x2, x3, x4, x5, x6, x7, x8, x9, x10, x11, x12, rfl⟩ := len13 hvl
                    have HK := Lib.hid hK
                    have HC := Lib.hid hc
                    have HW := Lib.hid hw
                    clear hK hc hw hvl
                    simp only [putAll, Act.put, List.setIfInBounds_toArray, List.set_cons_succ, List.set_cons_zero]
                    clear HW
                    go_wp2_with fail
                    have fin := HK.out (.pointer (some ⟨w.heap.size + 1 + 1 + 1, 1, none⟩)) W (Below.refl _ _) rfl
                    simp only [putAll, Act.put, List.setIfInBounds_toArray, List.set_cons_succ, List.set_cons_zero] at fin
                    exact fin
                  · rintro vs W K hc hvl hw hK
                    obtain ⟨x0, x1, x2, x3, x4, x5, x6, x7, x8, x9, x10, x11, x12, rfl⟩ := len13 hvl
                    have HK := Lib.hid hK
                    have HC := Lib.hid hc
                    have HW := Lib.hid hw
                    clear hK hc hw hvl
                    obtain rfl : x7 = .pointer (some ⟨w.heap.size + 1 + 1 + 1, 1, none⟩) := box_get (HW.out ⟨7, .data⟩ (by simp) rfl) rfl
                    simp only [putAll, Act.put, List.setIfInBounds_toArray, List.set_cons_succ, List.set_cons_zero]
                    have rr := (HP5.out.grow HC.out).fa
                    have d0 := rr.cell 1
                    simp only [List.getElem?_cons_zero, List.getElem?_cons_succ] at d0
                    clear rr
                    clear HW
                    go_wp2_with fail
                    have fin := HK.out (.int .i64 (f1 : Int)) W (Below.refl _ _) rfl
                    simp only [putAll, Act.put, List.setIfInBounds_toArray, List.set_cons_succ, List.set_cons_zero] at fin
                    exact fin
                  · rintro vs W K hc hvl hw hK
                    obtain ⟨x0, x1, x2, x3, x4, x5, x6, x7, x8, x9, x10, x11, x12, rfl⟩ := len13 hvl
                    have HK := Lib.hid hK
                    have HC := Lib.hid hc
                    have HW := Lib.hid hw
                    clear hK hc hw hvl
                    obtain rfl : x6 = .slice (some ⟨g, o, none⟩) n c := box_get (HW.out ⟨6, .data⟩ (by simp) rfl) rfl
                    obtain rfl : x8 = .int .i64 (f1 : Int) := box_get (HW.out ⟨8, .data⟩ (by simp) rfl) rfl
                    simp only [putAll, Act.put, List.setIfInBounds_toArray, List.set_cons_succ, List.set_cons_zero]
                    have hi1 := HFL.out.2
                    clear HW
                    go_wp2_with fail
                    have fin := HK.out (.pointer (some ⟨g, o + f1 * 2, none⟩)) W (Below.refl _ _) rfl
                    simp only [putAll, Act.put, List.setIfInBounds_toArray, List.set_cons_succ, List.set_cons_zero] at fin
                    exact fin
                  · rintro vs W K hc hvl hw hK
                    obtain ⟨x0, x1, x2, x3, x4, x5, x6, x7, x8, x9, x10, x11, x12, rfl⟩ := len13 hvl
                    have HK := Lib.hid hK
                    have HC := Lib.hid hc
                    have HW := Lib.hid hw
                    clear hK hc hw hvl
                    obtain rfl : x9 = .pointer (some ⟨g, o + f1 * 2, none⟩) := box_get (HW.out ⟨9, .data⟩ (by simp) rfl) rfl
                    simp only [putAll, Act.put, List.setIfInBounds_toArray, List.set_cons_succ, List.set_cons_zero]
                    have d0 := (HPF1.out W (Below.andThen HP5.out.bl HC.out (Nat.le_refl _))).1
                    have d1 := (HPF1.out W (Below.andThen HP5.out.bl HC.out (Nat.le_refl _))).2
                    clear HW
                    go_wp2_with fail
                    have fin := HK.out (.agg #[.int .i64 a5, .int .i64 b5]) W (Below.refl _ _) rfl
                    simp only [putAll, Act.put, List.setIfInBounds_toArray, List.set_cons_succ, List.set_cons_zero] at fin
                    exact fin
                  · rintro vs W K hc hvl hw hK
                    obtain ⟨x0, x1, x2, x3, x4, x5, x6, x7, x8, x9, x10, x11, x12, rfl⟩ := len13 hvl
                    have HK := Lib.hid hK
                    have HC := Lib.hid hc
                    have HW := Lib.hid hw
                    clear hK hc hw hvl
                    obtain rfl : x5 = .agg #[.int .i64 a4, .int .i64 b4] := box_get (HW.out ⟨5, .data⟩ (by simp) rfl) rfl
                    obtain rfl : x10 = .agg #[.int .i64 a5, .int .i64 b5] := box_get (HW.out ⟨10, .data⟩ (by simp) rfl) rfl
                    simp only [putAll, Act.put, List.setIfInBounds_toArray, List.set_cons_succ, List.set_cons_zero]
                    clear HW
                    go_wp2_with fail
                    refine (HDF.out W).mono ?_
                    rintro e W' ⟨rfl, hb'⟩
                    have HB' := Lib.hid hb'
                    clear hb'
                    go_wp2_with fail
                    have fin := HK.out (.int .i64 DF) W' HB'.out rfl
                    simp only [putAll, Act.put, List.setIfInBounds_toArray, List.set_cons_succ, List.set_cons_zero] at fin
                    exact fin
                  · rintro vs W K hc hvl hw hK
                    obtain ⟨x0, x1, x2, x3, x4, x5, x6, x7, x8, x9, x10, x11, x12, rfl⟩ := len13 hvl
                    have HK := Lib.hid hK
                    have HC := Lib.hid hc
                    have HW := Lib.hid hw
                    clear hK hc hw hvl
                    obtain rfl : x0 = .int .i64 DX := box_get (HW.out ⟨0, .data⟩ (by simp) rfl) rfl
                    obtain rfl : x11 = .int .i64 DF := box_get (HW.out ⟨11, .data⟩ (by simp) rfl) rfl
                    simp only [putAll, Act.put, List.setIfInBounds_toArray, List.set_cons_succ, List.set_cons_zero]
                    have e1 := HFF.out.1
                    have e2 := HFF.out.2
                    clear HW
                    go_wp2_with fail
                    have fin := HK.out (.bool F) W (Below.refl _ _) rfl
                    simp only [putAll, Act.put, List.setIfInBounds_toArray, List.set_cons_succ, List.set_cons_zero] at fin
                    exact fin
                case fin =>
                  rintro vs W hJ
                  obtain ⟨x0, x1, x2, x3, x4, x5, x6, x7, x8, x9, x10, x11, x12, rfl⟩ := len13 hJ.ln
                  obtain rfl : x12 = .bool F := box_get (hJ.val 12 rfl) rfl
                  have HC := Lib.hid hJ.bl
                  clear hJ
                  simp only [putAll, Act.put, List.setIfInBounds_toArray, List.set_cons_succ, List.set_cons_zero]
                  have HP9 := Lib.hid (HP5.out.grow HC.out)
                  clear HC
                  cases F with
                  | true =>
                    have q9 := HP9.out.fa
                    have c0 := q9.cell 0
                    have c1 := q9.cell 1
                    have z0 := frozen_of_row _ (w.heap.size + 1 + 1 + 1) 0 _ _ q9
                    have z1 := frozen_of_row _ (w.heap.size + 1 + 1 + 1) 1 _ _ q9
                    simp only [List.getElem?_cons_zero, List.getElem?_cons_succ] at c0 c1
                    clear q9
                    go_wp2_with fail
                    refine ⟨⟨q + 1, by have := HK.out; omega, by have := HK.out; exact congrArg (Value.int .i64) (by omega), ?_⟩, by simp [intOf]; omega⟩
                    rw [HNN.out, HFN.out, if_pos (by trivial), if_pos (by trivial)]
                    exact Lib.hid (HP9.out.setFa (i, k))
                  | false =>
                    go_wp2_with fail
                    refine ⟨⟨q + 1, by have := HK.out; omega, by have := HK.out; exact congrArg (Value.int .i64) (by omega), ?_⟩, by simp [intOf]; omega⟩
                    rw [HNN.out, HFN.out, if_pos (by trivial), if_neg (by simp)]
                    exact HP9
              | false =>
                go_wp2_with fail
                refine wp_region_box (by kernel_rfl) (by kernel_rfl) [50, 51, 52, 53, 54, 55, 56, 57, 58, 59, 60, 61, 62] [(fun v => v = .int .i64 DX), (fun v => v = .slice (some ⟨g, o, none⟩) n c), (fun v => v = .pointer (some ⟨w.heap.size + 1 + 1 + 1, 0, none⟩)), (fun v => v = .int .i64 (f0 : Int)), (fun v => v = .pointer (some ⟨g, o + f0 * 2, none⟩)), (fun v => v = .agg #[.int .i64 a4, .int .i64 b4]), (fun v => v = .slice (some ⟨g, o, none⟩) n c), (fun v => v = .pointer (some ⟨w.heap.size + 1 + 1 + 1, 1, none⟩)), (fun v => v = .int .i64 (f1 : Int)), (fun v => v = .pointer (some ⟨g, o + f1 * 2, none⟩)), (fun v => v = .agg #[.int .i64 a5, .int .i64 b5]), (fun v => v = .int .i64 DF), (fun v => v = .bool F)] [none, none, none, none, none, none, none, none, none, none, none, none, none] [none, none, none, none, none, none, none, none, none, none, none, none, none] 13 rfl (by kernel_rfl) ?tr ⟨_, (putAll_self _ _).symm, rfl⟩ ?steps ?fin
                case tr =>
                  rintro i v h
                  rcases i with _ | _ | _ | _ | _ | _ | _ | _ | _ | _ | _ | _ | _ | i
                  all_goals first | trivial | (exfalso; rcases h with h | h <;> simp at h)
                case steps =>
                  simp only [boxSteps, Nat.reduceAdd, Nat.zero_add, List.getD_cons_succ, List.getD_cons_zero]
                  refine ⟨?_, ?_, ?_, ?_, ?_, ?_, ?_, ?_, ?_, ?_, ?_, ?_, ?_, trivial⟩
                  · rintro vs W K hc hvl hw hK
                    obtain ⟨x0, x1, x2, x3, x4, x5, x6, x7, x8, x9, x10, x11, x12, rfl⟩ := len13 hvl
                    have HK := Lib.hid hK
                    have HC := Lib.hid hc
                    have HW := Lib.hid hw
                    clear hK hc hw hvl
                    simp only [putAll, Act.put, List.setIfInBounds_toArray, List.set_cons_succ, List.set_cons_zero]
                    clear HW
                    go_wp2_with fail
                    have fin := HK.out (.int .i64 DX) W (Below.refl _ _) rfl
                    simp only [putAll, Act.put, List.setIfInBounds_toArray, List.set_cons_succ, List.set_cons_zero] at fin
                    exact fin
                  · rintro vs W K hc hvl hw hK
                    obtain ⟨x0, x1, x2, x3, x4, x5, x6, x7, x8, x9, x10, x11, x12, rfl⟩ := len13 hvl
                    have HK := Lib.hid hK
                    have HC := Lib.hid hc
                    have HW := Lib.hid hw
                    clear hK hc hw hvl
                    simp only [putAll, Act.put, List.setIfInBounds_toArray, List.set_cons_succ, List.set_cons_zero]
                    clear HW
                    go_wp2_with fail
                    have fin := HK.out (.slice (some ⟨g, o, none⟩) n c) W (Below.refl _ _) rfl
                    simp only [putAll, Act.put, List.setIfInBounds_toArray, List.set_cons_succ, List.set_cons_zero] at fin
                    exact fin
                  · rintro vs W K hc hvl hw hK
                    obtain ⟨x0, x1, x2, x3, x4, x5, x6, x7, x8, x9, x10, x11, x12, rfl⟩ := len13 hvl
                    have HK := Lib.hid hK
                    have HC := Lib.hid hc
                    have HW := Lib.hid hw
                    clear hK hc hw hvl
                    simp only [putAll, Act.put, List.setIfInBounds_toArray, List.set_cons_succ, List.set_cons_zero]
                    clear HW
                    go_wp2_with fail
                    have fin := HK.out (.pointer (some ⟨w.heap.size + 1 + 1 + 1, 0, none⟩)) W (Below.refl _ _) rfl
                    simp only [putAll, Act.put, List.setIfInBounds_toArray, List.set_cons_succ, List.set_cons_zero] at fin
                    exact fin
                  · rintro vs W K hc hvl hw hK
                    obtain ⟨x0, x1, x2, x3, x4, x5, x6, x7, x8, x9, x10, x11, x12, rfl⟩ := len13 hvl
                    have HK := Lib.hid hK
                    have HC := Lib.hid hc
                    have HW := Lib.hid hw
                    clear hK hc hw hvl
                    obtain rfl : x2 = .pointer (some ⟨w.heap.size + 1 + 1 + 1, 0, none⟩) := box_get (HW.out ⟨2, .data⟩ (by simp) rfl) rfl
                    simp only [putAll, Act.put, List.setIfInBounds_toArray, List.set_cons_succ, List.set_cons_zero]
                    have rr := (HP2.out.grow HC.out).fa
                    have d0 := rr.cell 0
                    simp only [List.getElem?_cons_zero] at d0
                    clear rr
                    clear HW
                    go_wp2_with fail
                    have fin := HK.out (.int .i64 (f0 : Int)) W (Below.refl _ _) rfl
                    simp only [putAll, Act.put, List.setIfInBounds_toArray, List.set_cons_succ, List.set_cons_zero] at fin
                    exact fin
                  · rintro vs W K hc hvl hw hK
                    obtain ⟨x0, x1, x2, x3, x4, x5, x6, x7, x8, x9, x10, x11, x12, rfl⟩ := len13 hvl
                    have HK := Lib.hid hK
                    have HC := Lib.hid hc
                    have HW := Lib.hid hw
                    clear hK hc hw hvl
                    obtain rfl : x1 = .slice (some ⟨g, o, none⟩) n c := box_get (HW.out ⟨1, .data⟩ (by simp) rfl) rfl
                    obtain rfl : x3 = .int .i64 (f0 : Int) := box_get (HW.out ⟨3, .data⟩ (by simp) rfl) rfl
                    simp only [putAll, Act.put, List.setIfInBounds_toArray, List.set_cons_succ, List.set_cons_zero]
                    have hi1 := HFL.out.1
                    clear HW
                    go_wp2_with fail
                    have fin := HK.out (.pointer (some ⟨g, o + f0 * 2, none⟩)) W (Below.refl _ _) rfl
                    simp only [putAll, Act.put, List.setIfInBounds_toArray, List.set_cons_succ, List.set_cons_zero] at fin
                    exact fin
                  · rintro vs W K hc hvl hw hK
                    obtain ⟨x0, x1, x2, x3, x4, x5, x6, x7, x8, x9, x10, x11, x12, rfl⟩ := len13 hvl
                    have HK := Lib.hid hK
                    have HC := Lib.hid hc
                    have HW := Lib.hid hw
                    clear hK hc hw hvl
                    obtain rfl : x4 = .pointer (some ⟨g, o + f0 * 2, none⟩) := box_get (HW.out ⟨4, .data⟩ (by simp) rfl) rfl
                    simp only [putAll, Act.put, List.setIfInBounds_toArray, List.set_cons_succ, List.set_cons_zero]
                    have d0 := (HPF0.out W (Below.andThen HP2.out.bl HC.out (Nat.le_refl _))).1
                    have d1 := (HPF0.out W (Below.andThen HP2.out.bl HC.out (Nat.le_refl _))).2
                    clear HW
                    go_wp2_with fail
                    have fin := HK.out (.agg #[.int .i64 a4, .int .i64 b4]) W (Below.refl _ _) rfl
                    simp only [putAll, Act.put, List.setIfInBounds_toArray, List.set_cons_succ, List.set_cons_zero] at fin
                    exact fin
                  · rintro vs W K hc hvl hw hK
                    obtain ⟨x0, x1, x2, x3, x4, x5, x6, x7, x8, x9, x10, x11, x12, rfl⟩ := len13 hvl
                    have HK := Lib.hid hK
                    have HC := Lib.hid hc
                    have HW := Lib.hid hw
                    clear hK hc hw hvl
                    simp only [putAll, Act.put, List.setIfInBounds_toArray, List.set_cons_succ, List.set_cons_zero]
                    clear HW
                    go_wp2_with fail
                    have fin := HK.out (.slice (some ⟨g, o, none⟩) n c) W (Below.refl _ _) rfl
                    simp only [putAll, Act.put, List.setIfInBounds_toArray, List.set_cons_succ, List.set_cons_zero] at fin
                    exact fin
                  · rintro vs W K hc hvl hw hK
                    obtain ⟨x0, x1, x2, x3, x4, x5, x6, x7, x8, x9, x10, x11, x12, rfl⟩ := len13 hvl
                    have HK := Lib.hid hK
                    have HC := Lib.hid hc
                    have HW := Lib.hid hw
                    clear hK hc hw hvl
                    simp only [putAll, Act.put, List.setIfInBounds_toArray, List.set_cons_succ, List.set_cons_zero]
                    clear HW
                    go_wp2_with fail
                    have fin := HK.out (.pointer (some ⟨w.heap.size + 1 + 1 + 1, 1, none⟩)) W (Below.refl _ _) rfl
                    simp only [putAll, Act.put, List.setIfInBounds_toArray, List.set_cons_succ, List.set_cons_zero] at fin
                    exact fin
                  · rintro vs W K hc hvl hw hK
                    obtain ⟨x0, x1, x2, x3, x4, x5, x6, x7, x8, x9, x10, x11, x12, rfl⟩ := len13 hvl
                    have HK := Lib.hid hK
                    have HC := Lib.hid hc
                    have HW := Lib.hid hw
                    clear hK hc hw hvl
                    obtain rfl : x7 = .pointer (some ⟨w.heap.size + 1 + 1 + 1, 1, none⟩) := box_get (HW.out ⟨7, .data⟩ (by simp) rfl) rfl
                    simp only [putAll, Act.put, List.setIfInBounds_toArray, List.set_cons_succ, List.set_cons_zero]
                    have rr := (HP2.out.grow HC.out).fa
                    have d0 := rr.cell 1
                    simp only [List.getElem?_cons_zero, List.getElem?_cons_succ] at d0
                    clear rr
                    clear HW
                    go_wp2_with fail
                    have fin := HK.out (.int .i64 (f1 : Int)) W (Below.refl _ _) rfl
                    simp only [putAll, Act.put, List.setIfInBounds_toArray, List.set_cons_succ, List.set_cons_zero] at fin
                    exact fin
                  · rintro vs W K hc hvl hw hK
                    obtain ⟨x0, x1, x2, x3, x4, x5, x6, x7, x8, x9, x10, x11, x12, rfl⟩ := len13 hvl
                    have HK := Lib.hid hK
                    have HC := Lib.hid hc
                    have HW := Lib.hid hw
                    clear hK hc hw hvl
                    obtain rfl : x6 = .slice (some ⟨g, o, none⟩) n c := box_get (HW.out ⟨6, .data⟩ (by simp) rfl) rfl
                    obtain rfl : x8 = .int .i64 (f1 : Int) := box_get (HW.out ⟨8, .data⟩ (by simp) rfl) rfl
                    simp only [putAll, Act.put, List.setIfInBounds_toArray, List.set_cons_succ, List.set_cons_zero]
                    have hi1 := HFL.out.2
                    clear HW
                    go_wp2_with fail
                    have fin := HK.out (.pointer (some ⟨g, o + f1 * 2, none⟩)) W (Below.refl _ _) rfl
                    simp only [putAll, Act.put, List.setIfInBounds_toArray, List.set_cons_succ, List.set_cons_zero] at fin
                    exact fin
                  · rintro vs W K hc hvl hw hK
                    obtain ⟨x0, x1, x2, x3, x4, x5, x6, x7, x8, x9, x10, x11, x12, rfl⟩ := len13 hvl
                    have HK := Lib.hid hK
                    have HC := Lib.hid hc
                    have HW := Lib.hid hw
                    clear hK hc hw hvl
                    obtain rfl : x9 = .pointer (some ⟨g, o + f1 * 2, none⟩) := box_get (HW.out ⟨9, .data⟩ (by simp) rfl) rfl
                    simp only [putAll, Act.put, List.setIfInBounds_toArray, List.set_cons_succ, List.set_cons_zero]
                    have d0 := (HPF1.out W (Below.andThen HP2.out.bl HC.out (Nat.le_refl _))).1
                    have d1 := (HPF1.out W (Below.andThen HP2.out.bl HC.out (Nat.le_refl _))).2
                    clear HW
                    go_wp2_with fail
                    have fin := HK.out (.agg #[.int .i64 a5, .int .i64 b5]) W (Below.refl _ _) rfl
                    simp only [putAll, Act.put, List.setIfInBounds_toArray, List.set_cons_succ, List.set_cons_zero] at fin
                    exact fin
                  · rintro vs W K hc hvl hw hK
                    obtain ⟨x0, x1, x2, x3, x4, x5, x6, x7, x8, x9, x10, x11, x12, rfl⟩ := len13 hvl
                    have HK := Lib.hid hK
                    have HC := Lib.hid hc
                    have HW := Lib.hid hw
                    clear hK hc hw hvl
                    obtain rfl : x5 = .agg #[.int .i64 a4, .int .i64 b4] := box_get (HW.out ⟨5, .data⟩ (by simp) rfl) rfl
                    obtain rfl : x10 = .agg #[.int .i64 a5, .int .i64 b5] := box_get (HW.out ⟨10, .data⟩ (by simp) rfl) rfl
                    simp only [putAll, Act.put, List.setIfInBounds_toArray, List.set_cons_succ, List.set_cons_zero]
                    clear HW
                    go_wp2_with fail
                    refine (HDF.out W).mono ?_
                    rintro e W' ⟨rfl, hb'⟩
                    have HB' := Lib.hid hb'
                    clear hb'
                    go_wp2_with fail
                    have fin := HK.out (.int .i64 DF) W' HB'.out rfl
                    simp only [putAll, Act.put, List.setIfInBounds_toArray, List.set_cons_succ, List.set_cons_zero] at fin
                    exact fin
                  · rintro vs W K hc hvl hw hK
                    obtain ⟨x0, x1, x2, x3, x4, x5, x6, x7, x8, x9, x10, x11, x12, rfl⟩ := len13 hvl
                    have HK := Lib.hid hK
                    have HC := Lib.hid hc
                    have HW := Lib.hid hw
                    clear hK hc hw hvl
                    obtain rfl : x0 = .int .i64 DX := box_get (HW.out ⟨0, .data⟩ (by simp) rfl) rfl
                    obtain rfl : x11 = .int .i64 DF := box_get (HW.out ⟨11, .data⟩ (by simp) rfl) rfl
                    simp only [putAll, Act.put, List.setIfInBounds_toArray, List.set_cons_succ, List.set_cons_zero]
                    have e1 := HFF.out.1
                    have e2 := HFF.out.2
                    clear HW
                    go_wp2_with fail
                    have fin := HK.out (.bool F) W (Below.refl _ _) rfl
                    simp only [putAll, Act.put, List.setIfInBounds_toArray, List.set_cons_succ, List.set_cons_zero] at fin
                    exact fin
                case fin =>
                  rintro vs W hJ
                  obtain ⟨x0, x1, x2, x3, x4, x5, x6, x7, x8, x9, x10, x11, x12, rfl⟩ := len13 hJ.ln
                  obtain rfl : x12 = .bool F := box_get (hJ.val 12 rfl) rfl
                  have HC := Lib.hid hJ.bl
                  clear hJ
                  simp only [putAll, Act.put, List.setIfInBounds_toArray, List.set_cons_succ, List.set_cons_zero]
                  have HP9 := Lib.hid (HP2.out.grow HC.out)
                  clear HC
                  cases F with
                  | true =>
                    have q9 := HP9.out.fa
                    have c0 := q9.cell 0
                    have c1 := q9.cell 1
                    have z0 := frozen_of_row _ (w.heap.size + 1 + 1 + 1) 0 _ _ q9
                    have z1 := frozen_of_row _ (w.heap.size + 1 + 1 + 1) 1 _ _ q9
                    simp only [List.getElem?_cons_zero, List.getElem?_cons_succ] at c0 c1
                    clear q9
                    go_wp2_with fail
                    refine ⟨⟨q + 1, by have := HK.out; omega, by have := HK.out; exact congrArg (Value.int .i64) (by omega), ?_⟩, by simp [intOf]; omega⟩
                    rw [HNN.out, HFN.out, if_neg (by simp), if_pos (by trivial)]
                    exact Lib.hid (HP9.out.setFa (i, k))
                  | false =>
                    go_wp2_with fail
                    refine ⟨⟨q + 1, by have := HK.out; omega, by have := HK.out; exact congrArg (Value.int .i64) (by omega), ?_⟩, by simp [intOf]; omega⟩
                    rw [HNN.out, HFN.out, if_neg (by simp), if_neg (by simp)]
                    exact HP9
        · have hd2 : decide ((k : Int) < (n : Int)) = false := decide_eq_false (by omega)
          have hdn2 : decide (k < n) = false := decide_eq_false hkt
          have HNX := Lib.hid (show prB n (i + 1) 0 = prB n i q by
            rw [prB_next]
            have := HK.out; have := HQ.out
            rw [show n - (i + 1) = q by omega])
          go_wp2_with fail
          exact ⟨⟨i + 1, by have := HIT.out; omega, rfl, by rw [HNX.out]; exact HB⟩, by simp [intOf]; omega⟩
    · have hd : decide ((i : Int) < (n : Int)) = false := decide_eq_false (by omega)
      have hdn : decide (i < n) = false := decide_eq_false hit
      obtain rfl : i = n := by omega
      rw [prB_end] at HB
      obtain ⟨⟨r0, r1⟩, hr1⟩ : ∃ x, nrK ps (prL i) = x := ⟨_, rfl⟩
      obtain ⟨⟨s0, s1⟩, hr2⟩ : ∃ x, faK ps (prL i) = x := ⟨_, rfl⟩
      have HR1 := Lib.hid hr1
      have HR2 := Lib.hid hr2
      rw [hr1, hr2] at HB
      clear hr1 hr2
      go_wp2_with fail
      have HV := Lib.hid HB
      have qr := HB.out.r0
      have qs := HB.out.r1
      have qn := HB.out.nr
      have qf := HB.out.fa
      have c0 := qr.cell 0
      have c1 := qr.cell 1
      have c2 := qs.cell 0
      have c3 := qs.cell 1
      have c4 := qn.cell 0
      have c5 := qn.cell 1
      have c6 := qf.cell 0
      have c7 := qf.cell 1
      have z0 := frozen_of_row _ w.heap.size 0 _ _ qr
      have z1 := frozen_of_row _ w.heap.size 1 _ _ qr
      have z2 := frozen_of_row _ (w.heap.size + 1) 0 _ _ qs
      have z3 := frozen_of_row _ (w.heap.size + 1) 1 _ _ qs
      simp only [List.getElem?_cons_zero, List.getElem?_cons_succ] at c0 c1 c2 c3 c4 c5 c6 c7
      clear qr qs qn qf HB
      go_region_with (fail)
      all_goals
        go_wp2_with fail
        have e1 : w.heap.size ≠ w.heap.size + 1 := by omega
        have p1 := (((HV.out.out.r0.set 0 (.int .i64 (r0 : Int))).set 1 (.int .i64 (r1 : Int))).other 0 (.int .i64 (s0 : Int)) e1).other 1 (.int .i64 (s1 : Int)) e1
        have p2 := (((HV.out.out.r1.other 0 (.int .i64 (r0 : Int)) e1.symm).other 1 (.int .i64 (r1 : Int)) e1.symm).set 0 (.int .i64 (s0 : Int))).set 1 (.int .i64 (s1 : Int))
        have v0 := p1.cell 0
        have v1 := p1.cell 1
        have u0 := p2.cell 0
        have u1 := p2.cell 1
        simp only [List.set_cons_zero, List.set_cons_succ, List.getElem?_cons_zero, List.getElem?_cons_succ] at v0 v1 u0 u1
        refine bodyPost_ret (v := .tuple #[.agg #[.int .i64 (r0 : Int), .int .i64 (r1 : Int)], .agg #[.int .i64 (s0 : Int), .int .i64 (s1 : Int)]]) (by simp [results, Try.results48, go_sem, v0, v1, u0, u1]) rfl ⟨by rw [HR1.out, HR2.out]; rfl, ?_⟩
        exact Below.drew <| (((HV.out.out.bl.setCell (p := ⟨w.heap.size, 0, none⟩) (Nat.le_refl _) _).setCell (p := ⟨w.heap.size, 1, none⟩) (Nat.le_refl _) _).setCell (p := ⟨w.heap.size + 1, 0, none⟩) (Nat.le_succ _) _).setCell (p := ⟨w.heap.size + 1, 1, none⟩) (Nat.le_succ _) _
end Go.Proofs.Ytlemipnplgbckaa
