import Derived.Test.YtlemipnplgbckaaJP
import Derived.Test.YtlemipnplgbckaaRT
import Derived.Laws.AppendOwn
import Derived.ChangeKeysEq
import Derived.Maps.RangeWalk
import Derived.Maps.OwnIn
import Derived.Maps.AppendAt
import Derived.RangeFuncNested
import Derived.RangeFuncBound
import Derived.RangeFuncCalls
import Derived.RangeFuncLeaves
import Derived.Shelf.Abstract
import Derived.Shelf.RegionOpen
import Derived.WalkKit
import Derived.WalkMore
import Derived.OwnWalkIn
import Derived.TacticsInMore
import Derived.LoopNIn
import Derived.LoopIn
import Derived.WalkSpells
import Derived.WalkLawsBesides
import Derived.BigQuiet
import Derived.Deep.QuietTactic
import Derived.Lib.Hide
import Derived.Deep.RegionHeld3
import Derived.StillTailTactics
import Derived.Deep.LoopGhost
import Derived.Maps.OwnSet
import Derived.Lib.IndexAny
import Derived.Sort.QuietThIn
import Derived.Sort.QuietTacIn
import Derived.Sort.BigQuietIn
import Derived.Laws.OwnMore
import Derived.DeepKeys4
import Derived.Maps.Views
import Derived.Maps.OwnOps
import Derived.Deep.DeepCutAuto
import Derived.Shelf.Bits.Mul64
import Derived.Shelf.LaysM
namespace Go.Proofs.Ytlemipnplgbckaa
open Go.RowKit Go.Shelf
attribute [local go_sem] Oper.semAt_some
set_option maxRecDepth 100000 in
set_option maxHeartbeats 400000 in
theorem acute_any (a1 a2 b1 b2 c1 c2 : Int) (w : World) (h1 : Bd 20 a1) (h2 : Bd 20 a2) (h3 : Bd 20 b1) (h4 : Bd 20 b2) (h5 : Bd 20 c1) (h6 : Bd 20 c2) :
    Calls Try.prog 80 #[.agg #[.int .i64 a1, .int .i64 a2], .agg #[.int .i64 b1, .int .i64 b2], .agg #[.int .i64 c1, .int .i64 c2]] w fun e w' => e = .returned (.bool (decide (0 < dt (b1 - a1, b2 - a2) (c1 - a1, c2 - a2)))) ∧ Below w.heap.size w w' := by
  have m1 := (h3.sub h1).mul (h5.sub h1)
  have m2 := (h4.sub h2).mul (h6.sub h2)
  have e1 := i64_bd (h3.sub h1) (by omega)
  have e2 := i64_bd (h5.sub h1) (by omega)
  have e3 := i64_bd (h4.sub h2) (by omega)
  have e4 := i64_bd (h6.sub h2) (by omega)
  have e5 := i64_bd m1 (by omega)
  have e6 := i64_bd m2 (by omega)
  have e7 := i64_bd (m1.add m2) (by omega)
  have BA := Lib.hid ((((Below.refl w.heap.size w).alloc (Nat.le_refl _) (.cells #[.int .i64 a1, .int .i64 a2] 28)).alloc (by simp) (.cells #[.int .i64 b1, .int .i64 b2] 28)).alloc (by simp; omega) (.cells #[.int .i64 c1, .int .i64 c2] 28))
  clear m1 m2 h1 h2 h3 h4 h5 h6
  go_enter Try.func80, Try.ntmps80
  go_wp2_with fail
  go_ret
  exact ⟨rfl, BA.out⟩
theorem to_nat {x : Int} {n : Nat} (h : 0 ≤ x ∧ x < n) : ∃ i : Nat, x = (i : Int) ∧ i < n := ⟨x.toNat, by omega, by omega⟩
set_option maxRecDepth 100000 in
set_option maxHeartbeats 4000000 in
theorem rIsForce_bad (ps : List Pt) (v vf : Value) (zs : List Int) (w : World) (hv : SlP w v ps) (he : chkP ps = true) (hf : SlI w vf zs) (hzl : zs.length ≤ 1000) (hix : idxOk ps.length zs = false) :
    Calls Try.prog 43 #[v, vf] w fun e w' => e = .returned (.bool (riF ps zs)) ∧ Below w.heap.size w w' := by
  obtain ⟨⟨h1, hl⟩, hpb, hnd⟩ := chkP_iff.1 he
  have HSM := Lib.hid (fun W (hb : Below w.heap.size w W) => rSmallest_any ps v W (hv.grow hb) he)
  have HIN := Lib.hid (fun W (hb : Below w.heap.size w W) => Indices_any ps.length zs vf W (hf.grow hb) hzl (by omega))
  have HCB := Lib.hid (circL_bd hpb _ (sm_spec (ps := ps) (by intro e; rw [e] at h1; simp at h1)).1)
  have HIX := Lib.hid (fun (h : idxOk ps.length zs = true) => idx_spec h)
  have HRI := Lib.hid (show riF ps zs = (idxOk ps.length zs && fB ps (smC ps) (zs.map Int.toNat)) from rfl)
  obtain ⟨a, cap, rfl, hcap, hpt⟩ := hv
  obtain ⟨af, cf, rfl, hcf, hft⟩ := hf
  have HPT := Lib.hid hpt
  have HFT := Lib.hid hft
  have HPB := Lib.hid hpb
  obtain ⟨n, hn⟩ : ∃ n, ps.length = n := ⟨_, rfl⟩
  have HN := Lib.hid hn
  rw [hn] at hl hcap h1 HSM HIN HIX HRI hix ⊢
  have HL := Lib.hid hl
  obtain ⟨g, o, rfl, hpa⟩ : ∃ g o, a = some ⟨g, o, none⟩ ∧ PtsAt w g o ps := HPT.out.resolve_left (fun e => by have := HN.out; rw [e] at this; simp at this; omega)
  have HPA := Lib.hid hpa
  obtain ⟨R, hR⟩ : ∃ R, riF ps zs = R := ⟨_, rfl⟩
  rw [hR] at HRI ⊢
  obtain ⟨C, hC⟩ : ∃ C, smC ps = C := ⟨_, rfl⟩
  rw [hC] at HSM HRI HCB
  obtain ⟨c1, c2, c3, c4⟩ := C
  have HSMC := Lib.hid (fun W (hb : Below w.heap.size w W) => show Calls Try.prog 42 #[.slice (some ⟨g, o, none⟩) n cap] W fun e w' => e = .returned (.agg #[.int .i64 c1, .int .i64 c2, .int .i64 c3, .int .i64 c4]) ∧ Below W.heap.size W w' from HSM.out W hb)
  clear hpt hft hpb hn hl he hnd hpa hR hC HSM
  have HR := Lib.hid (show R = false by rw [HRI.out, hix]; rfl)
  rw [hix] at HIN
  clear hix HRI
  go_enter Try.func43, Try.ntmps43
  go_wp2_with fail
  refine (HIN.out w (Below.refl _ _)).mono ?_
  rintro e w1 ⟨rfl, h1⟩
  have B1 := Lib.hid h1
  clear h1
  go_wp2_with fail
  go_ret
  exact ⟨ret_bool HR.out.symm, B1.out⟩
set_option maxRecDepth 100000 in
set_option maxHeartbeats 4000000 in
theorem rIsForce_0 (ps : List Pt) (v vf : Value) (w : World) (hv : SlP w v ps) (he : chkP ps = true) (hf : SlI w vf ([] : List Int)) (hzl : ([] : List Int).length ≤ 1000) (hix : idxOk ps.length ([] : List Int) = true) :
    Calls Try.prog 43 #[v, vf] w fun e w' => e = .returned (.bool (riF ps ([] : List Int))) ∧ Below w.heap.size w w' := by
  obtain ⟨⟨h1, hl⟩, hpb, hnd⟩ := chkP_iff.1 he
  have HSM := Lib.hid (fun W (hb : Below w.heap.size w W) => rSmallest_any ps v W (hv.grow hb) he)
  have HIN := Lib.hid (fun W (hb : Below w.heap.size w W) => Indices_any ps.length ([] : List Int) vf W (hf.grow hb) hzl (by omega))
  have HCB := Lib.hid (circL_bd hpb _ (sm_spec (ps := ps) (by intro e; rw [e] at h1; simp at h1)).1)
  have HIX := Lib.hid (fun (h : idxOk ps.length ([] : List Int) = true) => idx_spec h)
  have HRI := Lib.hid (show riF ps ([] : List Int) = (idxOk ps.length ([] : List Int) && fB ps (smC ps) (([] : List Int).map Int.toNat)) from rfl)
  obtain ⟨a, cap, rfl, hcap, hpt⟩ := hv
  obtain ⟨af, cf, rfl, hcf, hft⟩ := hf
  have HPT := Lib.hid hpt
  have HFT := Lib.hid hft
  have HPB := Lib.hid hpb
  obtain ⟨n, hn⟩ : ∃ n, ps.length = n := ⟨_, rfl⟩
  have HN := Lib.hid hn
  rw [hn] at hl hcap h1 HSM HIN HIX HRI hix ⊢
  have HL := Lib.hid hl
  obtain ⟨g, o, rfl, hpa⟩ : ∃ g o, a = some ⟨g, o, none⟩ ∧ PtsAt w g o ps := HPT.out.resolve_left (fun e => by have := HN.out; rw [e] at this; simp at this; omega)
  have HPA := Lib.hid hpa
  obtain ⟨R, hR⟩ : ∃ R, riF ps ([] : List Int) = R := ⟨_, rfl⟩
  rw [hR] at HRI ⊢
  obtain ⟨C, hC⟩ : ∃ C, smC ps = C := ⟨_, rfl⟩
  rw [hC] at HSM HRI HCB
  obtain ⟨c1, c2, c3, c4⟩ := C
  have HSMC := Lib.hid (fun W (hb : Below w.heap.size w W) => show Calls Try.prog 42 #[.slice (some ⟨g, o, none⟩) n cap] W fun e w' => e = .returned (.agg #[.int .i64 c1, .int .i64 c2, .int .i64 c3, .int .i64 c4]) ∧ Below W.heap.size W w' from HSM.out W hb)
  clear hpt hft hpb hn hl he hnd hpa hR hC HSM
  have HIXX := Lib.hid (HIX.out hix)
  have HRR := Lib.hid (show R = fB ps ⟨c1, c2, c3, c4⟩ (([] : List Int).map Int.toNat) by rw [HRI.out, hix]; rfl)
  rw [hix] at HIN
  clear hix HRI HIX
  have HR := Lib.hid (show R = false by rw [HRR.out]; rfl)
  clear HRR
  go_enter Try.func43, Try.ntmps43
  go_wp2_with fail
  refine (HIN.out w (Below.refl _ _)).mono ?_
  rintro e w1 ⟨rfl, h1⟩
  have B1 := Lib.hid h1
  clear h1
  go_wp2_with fail
  refine (HSMC.out w1 B1.out).mono ?_
  rintro e w2 ⟨rfl, h2⟩
  obtain ⟨bb, rb⟩ := box_start w2 46 [.int .i64 c1, .int .i64 c2, .int .i64 c3, .int .i64 c4]
  have B2 := Lib.hid (Below.andThen B1.out (Below.andThen h2 bb (Nat.le_refl _)) (Nat.le_refl _))
  have RC := Lib.hid rb
  clear h2 bb rb HIN HSMC
  go_wp2_with fail
  go_ret
  exact ⟨ret_bool HR.out.symm, B2.out⟩
set_option maxRecDepth 100000 in
set_option maxHeartbeats 4000000 in
theorem rIsForce_1 (ps : List Pt) (v vf : Value) (x : Int) (w : World) (hv : SlP w v ps) (he : chkP ps = true) (hf : SlI w vf [x]) (hzl : [x].length ≤ 1000) (hix : idxOk ps.length [x] = true) :
    Calls Try.prog 43 #[v, vf] w fun e w' => e = .returned (.bool (riF ps [x])) ∧ Below w.heap.size w w' := by
  obtain ⟨⟨h1, hl⟩, hpb, hnd⟩ := chkP_iff.1 he
  have HSM := Lib.hid (fun W (hb : Below w.heap.size w W) => rSmallest_any ps v W (hv.grow hb) he)
  have HIN := Lib.hid (fun W (hb : Below w.heap.size w W) => Indices_any ps.length [x] vf W (hf.grow hb) hzl (by omega))
  have HCB := Lib.hid (circL_bd hpb _ (sm_spec (ps := ps) (by intro e; rw [e] at h1; simp at h1)).1)
  have HIX := Lib.hid (fun (h : idxOk ps.length [x] = true) => idx_spec h)
  have HRI := Lib.hid (show riF ps [x] = (idxOk ps.length [x] && fB ps (smC ps) ([x].map Int.toNat)) from rfl)
  obtain ⟨a, cap, rfl, hcap, hpt⟩ := hv
  obtain ⟨af, cf, rfl, hcf, hft⟩ := hf
  have HPT := Lib.hid hpt
  have HFT := Lib.hid hft
  have HPB := Lib.hid hpb
  obtain ⟨n, hn⟩ : ∃ n, ps.length = n := ⟨_, rfl⟩
  have HN := Lib.hid hn
  rw [hn] at hl hcap h1 HSM HIN HIX HRI hix ⊢
  have HL := Lib.hid hl
  obtain ⟨g, o, rfl, hpa⟩ : ∃ g o, a = some ⟨g, o, none⟩ ∧ PtsAt w g o ps := HPT.out.resolve_left (fun e => by have := HN.out; rw [e] at this; simp at this; omega)
  have HPA := Lib.hid hpa
  obtain ⟨R, hR⟩ : ∃ R, riF ps [x] = R := ⟨_, rfl⟩
  rw [hR] at HRI ⊢
  obtain ⟨C, hC⟩ : ∃ C, smC ps = C := ⟨_, rfl⟩
  rw [hC] at HSM HRI HCB
  obtain ⟨c1, c2, c3, c4⟩ := C
  have HSMC := Lib.hid (fun W (hb : Below w.heap.size w W) => show Calls Try.prog 42 #[.slice (some ⟨g, o, none⟩) n cap] W fun e w' => e = .returned (.agg #[.int .i64 c1, .int .i64 c2, .int .i64 c3, .int .i64 c4]) ∧ Below W.heap.size W w' from HSM.out W hb)
  clear hpt hft hpb hn hl he hnd hpa hR hC HSM
  have HIXX := Lib.hid (HIX.out hix)
  have HRR := Lib.hid (show R = fB ps ⟨c1, c2, c3, c4⟩ ([x].map Int.toNat) by rw [HRI.out, hix]; rfl)
  rw [hix] at HIN
  clear hix HRI HIX
  obtain ⟨E, hE⟩ : ∃ E, decide (n = 1) = E := ⟨_, rfl⟩
  have HR := Lib.hid (show R = E by rw [HRR.out, ← hE, ← HN.out]; rfl)
  have hE2 : ((n : Int) == 1) = E := by rw [← hE]; rw [Bool.eq_iff_iff]; simp; omega
  clear hE HRR
  go_enter Try.func43, Try.ntmps43
  go_wp2_with fail
  refine (HIN.out w (Below.refl _ _)).mono ?_
  rintro e w1 ⟨rfl, h1⟩
  have B1 := Lib.hid h1
  clear h1
  go_wp2_with fail
  refine (HSMC.out w1 B1.out).mono ?_
  rintro e w2 ⟨rfl, h2⟩
  obtain ⟨bb, rb⟩ := box_start w2 46 [.int .i64 c1, .int .i64 c2, .int .i64 c3, .int .i64 c4]
  have B2 := Lib.hid (Below.andThen B1.out (Below.andThen h2 bb (Nat.le_refl _)) (Nat.le_refl _))
  have RC := Lib.hid rb
  clear h2 bb rb HIN HSMC
  go_wp2_with fail
  go_ret
  exact ⟨ret_bool HR.out.symm, B2.out⟩
set_option maxRecDepth 100000 in
set_option maxHeartbeats 4000000 in
theorem rIsForce_2 (ps : List Pt) (v vf : Value) (x y z u : Int) (f : List Int) (w : World) (hv : SlP w v ps) (he : chkP ps = true) (hf : SlI w vf (x :: y :: z :: u :: f)) (hzl : (x :: y :: z :: u :: f).length ≤ 1000) (hix : idxOk ps.length (x :: y :: z :: u :: f) = true) :
    Calls Try.prog 43 #[v, vf] w fun e w' => e = .returned (.bool (riF ps (x :: y :: z :: u :: f))) ∧ Below w.heap.size w w' := by
  obtain ⟨⟨h1, hl⟩, hpb, hnd⟩ := chkP_iff.1 he
  have HSM := Lib.hid (fun W (hb : Below w.heap.size w W) => rSmallest_any ps v W (hv.grow hb) he)
  have HIN := Lib.hid (fun W (hb : Below w.heap.size w W) => Indices_any ps.length (x :: y :: z :: u :: f) vf W (hf.grow hb) hzl (by omega))
  have HCB := Lib.hid (circL_bd hpb _ (sm_spec (ps := ps) (by intro e; rw [e] at h1; simp at h1)).1)
  have HIX := Lib.hid (fun (h : idxOk ps.length (x :: y :: z :: u :: f) = true) => idx_spec h)
  have HRI := Lib.hid (show riF ps (x :: y :: z :: u :: f) = (idxOk ps.length (x :: y :: z :: u :: f) && fB ps (smC ps) ((x :: y :: z :: u :: f).map Int.toNat)) from rfl)
  obtain ⟨a, cap, rfl, hcap, hpt⟩ := hv
  obtain ⟨af, cf, rfl, hcf, hft⟩ := hf
  have HPT := Lib.hid hpt
  have HFT := Lib.hid hft
  have HPB := Lib.hid hpb
  obtain ⟨n, hn⟩ : ∃ n, ps.length = n := ⟨_, rfl⟩
  have HN := Lib.hid hn
  rw [hn] at hl hcap h1 HSM HIN HIX HRI hix ⊢
  have HL := Lib.hid hl
  obtain ⟨g, o, rfl, hpa⟩ : ∃ g o, a = some ⟨g, o, none⟩ ∧ PtsAt w g o ps := HPT.out.resolve_left (fun e => by have := HN.out; rw [e] at this; simp at this; omega)
  have HPA := Lib.hid hpa
  obtain ⟨R, hR⟩ : ∃ R, riF ps (x :: y :: z :: u :: f) = R := ⟨_, rfl⟩
  rw [hR] at HRI ⊢
  obtain ⟨C, hC⟩ : ∃ C, smC ps = C := ⟨_, rfl⟩
  rw [hC] at HSM HRI HCB
  obtain ⟨c1, c2, c3, c4⟩ := C
  have HSMC := Lib.hid (fun W (hb : Below w.heap.size w W) => show Calls Try.prog 42 #[.slice (some ⟨g, o, none⟩) n cap] W fun e w' => e = .returned (.agg #[.int .i64 c1, .int .i64 c2, .int .i64 c3, .int .i64 c4]) ∧ Below W.heap.size W w' from HSM.out W hb)
  clear hpt hft hpb hn hl he hnd hpa hR hC HSM
  have HIXX := Lib.hid (HIX.out hix)
  have HRR := Lib.hid (show R = fB ps ⟨c1, c2, c3, c4⟩ ((x :: y :: z :: u :: f).map Int.toNat) by rw [HRI.out, hix]; rfl)
  rw [hix] at HIN
  clear hix HRI HIX
  have HR := Lib.hid (show R = false by rw [HRR.out]; rfl)
  obtain ⟨m, hm⟩ : ∃ m, (x :: y :: z :: u :: f).length = m := ⟨_, rfl⟩
  have h4 : 4 ≤ m := by rw [← hm]; simp
  rw [hm] at hcf hzl HIN ⊢
  clear hm HRR HIXX HFT
  have d1 : ((m : Int) == 1) = false := by simp; omega
  have d2 : ((m : Int) == 2) = false := by simp; omega
  have d3 : ((m : Int) == 3) = false := by simp; omega
  go_enter Try.func43, Try.ntmps43
  go_wp2_with fail
  refine (HIN.out w (Below.refl _ _)).mono ?_
  rintro e w1 ⟨rfl, h1⟩
  have B1 := Lib.hid h1
  clear h1
  go_wp2_with fail
  refine (HSMC.out w1 B1.out).mono ?_
  rintro e w2 ⟨rfl, h2⟩
  obtain ⟨bb, rb⟩ := box_start w2 46 [.int .i64 c1, .int .i64 c2, .int .i64 c3, .int .i64 c4]
  have B2 := Lib.hid (Below.andThen B1.out (Below.andThen h2 bb (Nat.le_refl _)) (Nat.le_refl _))
  have RC := Lib.hid rb
  clear h2 bb rb HIN HSMC
  go_wp2_with fail
  go_ret
  exact ⟨ret_bool HR.out.symm, B2.out⟩
set_option maxRecDepth 100000 in
set_option maxHeartbeats 4000000 in
theorem rIsForce_3 (ps : List Pt) (v vf : Value) (x y : Int) (w : World) (hv : SlP w v ps) (he : chkP ps = true) (hf : SlI w vf [x, y]) (hzl : [x, y].length ≤ 1000) (hix : idxOk ps.length [x, y] = true) :
    Calls Try.prog 43 #[v, vf] w fun e w' => e = .returned (.bool (riF ps [x, y])) ∧ Below w.heap.size w w' := by
  obtain ⟨⟨h1, hl⟩, hpb, hnd⟩ := chkP_iff.1 he
  have HSM := Lib.hid (fun W (hb : Below w.heap.size w W) => rSmallest_any ps v W (hv.grow hb) he)
  have HIN := Lib.hid (fun W (hb : Below w.heap.size w W) => Indices_any ps.length [x, y] vf W (hf.grow hb) hzl (by omega))
  have HCB := Lib.hid (circL_bd hpb _ (sm_spec (ps := ps) (by intro e; rw [e] at h1; simp at h1)).1)
  have HIX := Lib.hid (fun (h : idxOk ps.length [x, y] = true) => idx_spec h)
  have HRI := Lib.hid (show riF ps [x, y] = (idxOk ps.length [x, y] && fB ps (smC ps) ([x, y].map Int.toNat)) from rfl)
  obtain ⟨a, cap, rfl, hcap, hpt⟩ := hv
  obtain ⟨af, cf, rfl, hcf, hft⟩ := hf
  have HPT := Lib.hid hpt
  have HFT := Lib.hid hft
  have HPB := Lib.hid hpb
  obtain ⟨n, hn⟩ : ∃ n, ps.length = n := ⟨_, rfl⟩
  have HN := Lib.hid hn
  rw [hn] at hl hcap h1 HSM HIN HIX HRI hix ⊢
  have HL := Lib.hid hl
  obtain ⟨g, o, rfl, hpa⟩ : ∃ g o, a = some ⟨g, o, none⟩ ∧ PtsAt w g o ps := HPT.out.resolve_left (fun e => by have := HN.out; rw [e] at this; simp at this; omega)
  have HPA := Lib.hid hpa
  obtain ⟨R, hR⟩ : ∃ R, riF ps [x, y] = R := ⟨_, rfl⟩
  rw [hR] at HRI ⊢
  obtain ⟨C, hC⟩ : ∃ C, smC ps = C := ⟨_, rfl⟩
  rw [hC] at HSM HRI HCB
  obtain ⟨c1, c2, c3, c4⟩ := C
  have HSMC := Lib.hid (fun W (hb : Below w.heap.size w W) => show Calls Try.prog 42 #[.slice (some ⟨g, o, none⟩) n cap] W fun e w' => e = .returned (.agg #[.int .i64 c1, .int .i64 c2, .int .i64 c3, .int .i64 c4]) ∧ Below W.heap.size W w' from HSM.out W hb)
  clear hpt hft hpb hn hl he hnd hpa hR hC HSM
  have HIXX := Lib.hid (HIX.out hix)
  have HRR := Lib.hid (show R = fB ps ⟨c1, c2, c3, c4⟩ ([x, y].map Int.toNat) by rw [HRI.out, hix]; rfl)
  rw [hix] at HIN
  clear hix HRI HIX
  obtain ⟨h, oh, rfl, hhl, hfa⟩ : ∃ g o, af = some ⟨g, o, none⟩ ∧ g < w.heap.size ∧ IntsAt w g o [x, y] := by
    rcases HFT.out with h | h
    · simp at h
    · exact h
  have s0 := HIXX.out 0 (by simp)
  simp only [List.getD_cons_zero, List.getD_cons_succ] at s0
  obtain ⟨i, rfl, l0⟩ := to_nat ⟨s0.1, s0.2.1⟩
  clear s0
  have s1 := HIXX.out 1 (by simp)
  simp only [List.getD_cons_zero, List.getD_cons_succ] at s1
  obtain ⟨j, rfl, l1⟩ := to_nat ⟨s1.1, s1.2.1⟩
  clear s1
  have HF0 := Lib.hid (fun W (hb : Below w.heap.size w W) => show W.cell? ⟨h, oh, none⟩ = some (.int .i64 (i : Int)) from below_at hb hhl (hfa.at_ 0 (by simp)))
  have HX0 := Lib.hid (fun W (hb : Below w.heap.size w W) => pt_cell HPA.out hb HN.out l0)
  have q0 := pt_bd HPB.out HN.out l0
  have HNI0 := Lib.hid (show (i : Int) < (n : Int) by omega)
  have HF1 := Lib.hid (fun W (hb : Below w.heap.size w W) => show W.cell? ⟨h, oh + 1, none⟩ = some (.int .i64 (j : Int)) from below_at hb hhl (hfa.at_ 1 (by simp)))
  have HX1 := Lib.hid (fun W (hb : Below w.heap.size w W) => pt_cell HPA.out hb HN.out l1)
  have q1 := pt_bd HPB.out HN.out l1
  have HNI1 := Lib.hid (show (j : Int) < (n : Int) by omega)
  have HRN := Lib.hid (show R = fB ps ⟨c1, c2, c3, c4⟩ [i, j] by rw [HRR.out]; rfl)
  clear HRR HIXX HFT hfa hhl
  obtain ⟨⟨a0, b0⟩, e0⟩ : ∃ p, ptAt ps i = p := ⟨_, rfl⟩
  rw [e0] at HX0 q0
  have HQ0 := Lib.hid q0
  obtain ⟨⟨a1, b1⟩, e1⟩ : ∃ p, ptAt ps j = p := ⟨_, rfl⟩
  rw [e1] at HX1 q1
  have HQ1 := Lib.hid q1
  dsimp only at HX0 HX1
  have HOV := Lib.hid (fun (W : World) => rOver_any a0 b0 a1 b1 W HQ0.out.1 HQ0.out.2 HQ1.out.1 HQ1.out.2)
  obtain ⟨⟨X, Y, D, Q⟩, hV⟩ : ∃ M, ovC (a0, b0) (a1, b1) = M := ⟨_, rfl⟩
  rw [hV] at HOV
  unfold Cir.V cirV at HOV
  dsimp only at HOV
  obtain ⟨E, hE⟩ : ∃ E, decide ((⟨X, Y, D, Q⟩ : Cir) = ⟨c1, c2, c3, c4⟩) = E := ⟨_, rfl⟩
  have HE := Lib.hid hE
  have HR := Lib.hid (show R = E by
    rw [HRN.out]
    show decide (ovC (ptAt ps i) (ptAt ps j) = _) = E
    rw [e0, e1, hV, hE])
  clear hV hE e0 e1 q0 q1 l0 l1 HRN
  go_enter Try.func43, Try.ntmps43
  go_wp2_with fail
  refine (HIN.out w (Below.refl _ _)).mono ?_
  rintro e w1 ⟨rfl, h1⟩
  have B1 := Lib.hid h1
  clear h1
  go_wp2_with fail
  refine (HSMC.out w1 B1.out).mono ?_
  rintro e w2 ⟨rfl, h2⟩
  obtain ⟨bb, rb⟩ := box_start w2 46 [.int .i64 c1, .int .i64 c2, .int .i64 c3, .int .i64 c4]
  have B2 := Lib.hid (Below.andThen B1.out (Below.andThen h2 bb (Nat.le_refl _)) (Nat.le_refl _))
  have RC := Lib.hid rb
  clear h2 bb rb HIN HSMC
  go_wp2_with fail
  generalize w2.alloc (.cells [.int .i64 c1, .int .i64 c2, .int .i64 c3, .int .i64 c4].toArray 46) = V at *
  generalize w2.heap.size = bc at *
  refine wp_region_box (by kernel_rfl) (by kernel_rfl) [25, 26, 27, 28, 29, 30, 31, 32, 33, 34, 35, 36, 37, 38, 39, 4] [(fun v => v = .slice (some ⟨g, o, none⟩) n cap), (fun v => v = .slice (some ⟨h, oh, none⟩) 2 cf), (fun v => v = .pointer (some ⟨h, oh, none⟩)), (fun v => v = .int .i64 (i : Int)), (fun v => v = .pointer (some ⟨g, o + i * 2, none⟩)), (fun v => v = .agg #[.int .i64 a0, .int .i64 b0]), (fun v => v = .slice (some ⟨g, o, none⟩) n cap), (fun v => v = .slice (some ⟨h, oh, none⟩) 2 cf), (fun v => v = .pointer (some ⟨h, oh + 1, none⟩)), (fun v => v = .int .i64 (j : Int)), (fun v => v = .pointer (some ⟨g, o + j * 2, none⟩)), (fun v => v = .agg #[.int .i64 a1, .int .i64 b1]), (fun v => v = .agg #[.int .i64 X, .int .i64 Y, .int .i64 D, .int .i64 Q]), (fun v => v = .agg #[.int .i64 c1, .int .i64 c2, .int .i64 c3, .int .i64 c4]), (fun v => v = .bool E), (fun v => v = .bool E)] [none, none, none, none, none, none, none, none, none, none, none, none, none, none, none, none] [none, none, none, none, none, none, none, none, none, none, none, none, none, none, none, none] 16 rfl (by kernel_rfl) ?tr ⟨_, (putAll_self _ _).symm, rfl⟩ ?steps ?fin
  case tr =>
    rintro i v h
    rcases i with _ | _ | _ | _ | _ | _ | _ | _ | _ | _ | _ | _ | _ | _ | _ | _ | i
    all_goals first | trivial | (exfalso; rcases h with h | h <;> simp at h)
  case steps =>
    simp only [boxSteps, Nat.reduceAdd, Nat.zero_add, List.getD_cons_succ, List.getD_cons_zero]
    refine ⟨?_, ?_, ?_, ?_, ?_, ?_, ?_, ?_, ?_, ?_, ?_, ?_, ?_, ?_, ?_, ?_, trivial⟩
    · rintro vs W K hc hvl hw hK
      obtain ⟨x0, x1, x2, x3, x4, x5, x6, x7, x8, x9, x10, x11, x12, x13, x14, x15, rfl⟩ := len16 hvl
      have HK := Lib.hid hK
      have HC := Lib.hid hc
      have HW := Lib.hid hw
      clear hK hc hw hvl
      simp only [putAll, Act.put, List.setIfInBounds_toArray, List.set_cons_succ, List.set_cons_zero, List.set_nil]
      clear HW
      go_wp2_with fail
      have fin := HK.out (.slice (some ⟨g, o, none⟩) n cap) W (Below.refl _ _) rfl
      simp only [putAll, Act.put, List.setIfInBounds_toArray, List.set_cons_succ, List.set_cons_zero, List.set_nil] at fin
      exact fin
    · rintro vs W K hc hvl hw hK
      obtain ⟨x0, x1, x2, x3, x4, x5, x6, x7, x8, x9, x10, x11, x12, x13, x14, x15, rfl⟩ := len16 hvl
      have HK := Lib.hid hK
      have HC := Lib.hid hc
      have HW := Lib.hid hw
      clear hK hc hw hvl
      simp only [putAll, Act.put, List.setIfInBounds_toArray, List.set_cons_succ, List.set_cons_zero, List.set_nil]
      clear HW
      go_wp2_with fail
      have fin := HK.out (.slice (some ⟨h, oh, none⟩) 2 cf) W (Below.refl _ _) rfl
      simp only [putAll, Act.put, List.setIfInBounds_toArray, List.set_cons_succ, List.set_cons_zero, List.set_nil] at fin
      exact fin
    · rintro vs W K hc hvl hw hK
      obtain ⟨x0, x1, x2, x3, x4, x5, x6, x7, x8, x9, x10, x11, x12, x13, x14, x15, rfl⟩ := len16 hvl
      have HK := Lib.hid hK
      have HC := Lib.hid hc
      have HW := Lib.hid hw
      clear hK hc hw hvl
      obtain rfl : x1 = .slice (some ⟨h, oh, none⟩) 2 cf := box_get (HW.out ⟨1, .data⟩ (by simp) rfl) rfl
      simp only [putAll, Act.put, List.setIfInBounds_toArray, List.set_cons_succ, List.set_cons_zero, List.set_nil]
      clear HW
      go_wp2_with fail
      have fin := HK.out (.pointer (some ⟨h, oh, none⟩)) W (Below.refl _ _) rfl
      simp only [putAll, Act.put, List.setIfInBounds_toArray, List.set_cons_succ, List.set_cons_zero, List.set_nil] at fin
      exact fin
    · rintro vs W K hc hvl hw hK
      obtain ⟨x0, x1, x2, x3, x4, x5, x6, x7, x8, x9, x10, x11, x12, x13, x14, x15, rfl⟩ := len16 hvl
      have HK := Lib.hid hK
      have HC := Lib.hid hc
      have HW := Lib.hid hw
      clear hK hc hw hvl
      obtain rfl : x2 = .pointer (some ⟨h, oh, none⟩) := box_get (HW.out ⟨2, .data⟩ (by simp) rfl) rfl
      simp only [putAll, Act.put, List.setIfInBounds_toArray, List.set_cons_succ, List.set_cons_zero, List.set_nil]
      have d0 := HF0.out W (Below.andThen B2.out HC.out (Nat.le_refl _))
      clear HW
      go_wp2_with fail
      have fin := HK.out (.int .i64 (i : Int)) W (Below.refl _ _) rfl
      simp only [putAll, Act.put, List.setIfInBounds_toArray, List.set_cons_succ, List.set_cons_zero, List.set_nil] at fin
      exact fin
    · rintro vs W K hc hvl hw hK
      obtain ⟨x0, x1, x2, x3, x4, x5, x6, x7, x8, x9, x10, x11, x12, x13, x14, x15, rfl⟩ := len16 hvl
      have HK := Lib.hid hK
      have HC := Lib.hid hc
      have HW := Lib.hid hw
      clear hK hc hw hvl
      obtain rfl : x0 = .slice (some ⟨g, o, none⟩) n cap := box_get (HW.out ⟨0, .data⟩ (by simp) rfl) rfl
      obtain rfl : x3 = .int .i64 (i : Int) := box_get (HW.out ⟨3, .data⟩ (by simp) rfl) rfl
      simp only [putAll, Act.put, List.setIfInBounds_toArray, List.set_cons_succ, List.set_cons_zero, List.set_nil]
      have hi1 := HNI0.out
      clear HW
      go_wp2_with fail
      have fin := HK.out (.pointer (some ⟨g, o + i * 2, none⟩)) W (Below.refl _ _) rfl
      simp only [putAll, Act.put, List.setIfInBounds_toArray, List.set_cons_succ, List.set_cons_zero, List.set_nil] at fin
      exact fin
    · rintro vs W K hc hvl hw hK
      obtain ⟨x0, x1, x2, x3, x4, x5, x6, x7, x8, x9, x10, x11, x12, x13, x14, x15, rfl⟩ := len16 hvl
      have HK := Lib.hid hK
      have HC := Lib.hid hc
      have HW := Lib.hid hw
      clear hK hc hw hvl
      obtain rfl : x4 = .pointer (some ⟨g, o + i * 2, none⟩) := box_get (HW.out ⟨4, .data⟩ (by simp) rfl) rfl
      simp only [putAll, Act.put, List.setIfInBounds_toArray, List.set_cons_succ, List.set_cons_zero, List.set_nil]
      have d0 := (HX0.out W (Below.andThen B2.out HC.out (Nat.le_refl _))).1
      have d1 := (HX0.out W (Below.andThen B2.out HC.out (Nat.le_refl _))).2
      clear HW
      go_wp2_with fail
      have fin := HK.out (.agg #[.int .i64 a0, .int .i64 b0]) W (Below.refl _ _) rfl
      simp only [putAll, Act.put, List.setIfInBounds_toArray, List.set_cons_succ, List.set_cons_zero, List.set_nil] at fin
      exact fin
    · rintro vs W K hc hvl hw hK
      obtain ⟨x0, x1, x2, x3, x4, x5, x6, x7, x8, x9, x10, x11, x12, x13, x14, x15, rfl⟩ := len16 hvl
      have HK := Lib.hid hK
      have HC := Lib.hid hc
      have HW := Lib.hid hw
      clear hK hc hw hvl
      simp only [putAll, Act.put, List.setIfInBounds_toArray, List.set_cons_succ, List.set_cons_zero, List.set_nil]
      clear HW
      go_wp2_with fail
      have fin := HK.out (.slice (some ⟨g, o, none⟩) n cap) W (Below.refl _ _) rfl
      simp only [putAll, Act.put, List.setIfInBounds_toArray, List.set_cons_succ, List.set_cons_zero, List.set_nil] at fin
      exact fin
    · rintro vs W K hc hvl hw hK
      obtain ⟨x0, x1, x2, x3, x4, x5, x6, x7, x8, x9, x10, x11, x12, x13, x14, x15, rfl⟩ := len16 hvl
      have HK := Lib.hid hK
      have HC := Lib.hid hc
      have HW := Lib.hid hw
      clear hK hc hw hvl
      simp only [putAll, Act.put, List.setIfInBounds_toArray, List.set_cons_succ, List.set_cons_zero, List.set_nil]
      clear HW
      go_wp2_with fail
      have fin := HK.out (.slice (some ⟨h, oh, none⟩) 2 cf) W (Below.refl _ _) rfl
      simp only [putAll, Act.put, List.setIfInBounds_toArray, List.set_cons_succ, List.set_cons_zero, List.set_nil] at fin
      exact fin
    · rintro vs W K hc hvl hw hK
      obtain ⟨x0, x1, x2, x3, x4, x5, x6, x7, x8, x9, x10, x11, x12, x13, x14, x15, rfl⟩ := len16 hvl
      have HK := Lib.hid hK
      have HC := Lib.hid hc
      have HW := Lib.hid hw
      clear hK hc hw hvl
      obtain rfl : x7 = .slice (some ⟨h, oh, none⟩) 2 cf := box_get (HW.out ⟨7, .data⟩ (by simp) rfl) rfl
      simp only [putAll, Act.put, List.setIfInBounds_toArray, List.set_cons_succ, List.set_cons_zero, List.set_nil]
      clear HW
      go_wp2_with fail
      have fin := HK.out (.pointer (some ⟨h, oh + 1, none⟩)) W (Below.refl _ _) rfl
      simp only [putAll, Act.put, List.setIfInBounds_toArray, List.set_cons_succ, List.set_cons_zero, List.set_nil] at fin
      exact fin
    · rintro vs W K hc hvl hw hK
      obtain ⟨x0, x1, x2, x3, x4, x5, x6, x7, x8, x9, x10, x11, x12, x13, x14, x15, rfl⟩ := len16 hvl
      have HK := Lib.hid hK
      have HC := Lib.hid hc
      have HW := Lib.hid hw
      clear hK hc hw hvl
      obtain rfl : x8 = .pointer (some ⟨h, oh + 1, none⟩) := box_get (HW.out ⟨8, .data⟩ (by simp) rfl) rfl
      simp only [putAll, Act.put, List.setIfInBounds_toArray, List.set_cons_succ, List.set_cons_zero, List.set_nil]
      have d0 := HF1.out W (Below.andThen B2.out HC.out (Nat.le_refl _))
      clear HW
      go_wp2_with fail
      have fin := HK.out (.int .i64 (j : Int)) W (Below.refl _ _) rfl
      simp only [putAll, Act.put, List.setIfInBounds_toArray, List.set_cons_succ, List.set_cons_zero, List.set_nil] at fin
      exact fin
    · rintro vs W K hc hvl hw hK
      obtain ⟨x0, x1, x2, x3, x4, x5, x6, x7, x8, x9, x10, x11, x12, x13, x14, x15, rfl⟩ := len16 hvl
      have HK := Lib.hid hK
      have HC := Lib.hid hc
      have HW := Lib.hid hw
      clear hK hc hw hvl
      obtain rfl : x6 = .slice (some ⟨g, o, none⟩) n cap := box_get (HW.out ⟨6, .data⟩ (by simp) rfl) rfl
      obtain rfl : x9 = .int .i64 (j : Int) := box_get (HW.out ⟨9, .data⟩ (by simp) rfl) rfl
      simp only [putAll, Act.put, List.setIfInBounds_toArray, List.set_cons_succ, List.set_cons_zero, List.set_nil]
      have hi1 := HNI1.out
      clear HW
      go_wp2_with fail
      have fin := HK.out (.pointer (some ⟨g, o + j * 2, none⟩)) W (Below.refl _ _) rfl
      simp only [putAll, Act.put, List.setIfInBounds_toArray, List.set_cons_succ, List.set_cons_zero, List.set_nil] at fin
      exact fin
    · rintro vs W K hc hvl hw hK
      obtain ⟨x0, x1, x2, x3, x4, x5, x6, x7, x8, x9, x10, x11, x12, x13, x14, x15, rfl⟩ := len16 hvl
      have HK := Lib.hid hK
      have HC := Lib.hid hc
      have HW := Lib.hid hw
      clear hK hc hw hvl
      obtain rfl : x10 = .pointer (some ⟨g, o + j * 2, none⟩) := box_get (HW.out ⟨10, .data⟩ (by simp) rfl) rfl
      simp only [putAll, Act.put, List.setIfInBounds_toArray, List.set_cons_succ, List.set_cons_zero, List.set_nil]
      have d0 := (HX1.out W (Below.andThen B2.out HC.out (Nat.le_refl _))).1
      have d1 := (HX1.out W (Below.andThen B2.out HC.out (Nat.le_refl _))).2
      clear HW
      go_wp2_with fail
      have fin := HK.out (.agg #[.int .i64 a1, .int .i64 b1]) W (Below.refl _ _) rfl
      simp only [putAll, Act.put, List.setIfInBounds_toArray, List.set_cons_succ, List.set_cons_zero, List.set_nil] at fin
      exact fin
    · rintro vs W K hc hvl hw hK
      obtain ⟨x0, x1, x2, x3, x4, x5, x6, x7, x8, x9, x10, x11, x12, x13, x14, x15, rfl⟩ := len16 hvl
      have HK := Lib.hid hK
      have HC := Lib.hid hc
      have HW := Lib.hid hw
      clear hK hc hw hvl
      obtain rfl : x5 = .agg #[.int .i64 a0, .int .i64 b0] := box_get (HW.out ⟨5, .data⟩ (by simp) rfl) rfl
      obtain rfl : x11 = .agg #[.int .i64 a1, .int .i64 b1] := box_get (HW.out ⟨11, .data⟩ (by simp) rfl) rfl
      simp only [putAll, Act.put, List.setIfInBounds_toArray, List.set_cons_succ, List.set_cons_zero, List.set_nil]
      clear HW
      go_wp2_with fail
      refine (HOV.out W).mono ?_
      rintro e W' ⟨rfl, hb'⟩
      have HB' := Lib.hid hb'
      clear hb'
      go_wp2_with fail
      have fin := HK.out (.agg #[.int .i64 X, .int .i64 Y, .int .i64 D, .int .i64 Q]) W' HB'.out rfl
      simp only [putAll, Act.put, List.setIfInBounds_toArray, List.set_cons_succ, List.set_cons_zero, List.set_nil] at fin
      exact fin
    · rintro vs W K hc hvl hw hK
      obtain ⟨x0, x1, x2, x3, x4, x5, x6, x7, x8, x9, x10, x11, x12, x13, x14, x15, rfl⟩ := len16 hvl
      have HK := Lib.hid hK
      have HC := Lib.hid hc
      have HW := Lib.hid hw
      clear hK hc hw hvl
      simp only [putAll, Act.put, List.setIfInBounds_toArray, List.set_cons_succ, List.set_cons_zero, List.set_nil]
      have rr := RC.out.below HC.out RC.out.lt
      have d0 := rr.cell 0
      have d1 := rr.cell 1
      have d2 := rr.cell 2
      have d3 := rr.cell 3
      simp only [List.getElem?_cons_zero, List.getElem?_cons_succ] at d0 d1 d2 d3
      clear rr
      clear HW
      go_wp2_with fail
      have fin := HK.out (.agg #[.int .i64 c1, .int .i64 c2, .int .i64 c3, .int .i64 c4]) W (Below.refl _ _) rfl
      simp only [putAll, Act.put, List.setIfInBounds_toArray, List.set_cons_succ, List.set_cons_zero, List.set_nil] at fin
      exact fin
    · rintro vs W K hc hvl hw hK
      obtain ⟨x0, x1, x2, x3, x4, x5, x6, x7, x8, x9, x10, x11, x12, x13, x14, x15, rfl⟩ := len16 hvl
      have HK := Lib.hid hK
      have HC := Lib.hid hc
      have HW := Lib.hid hw
      clear hK hc hw hvl
      obtain rfl : x12 = .agg #[.int .i64 X, .int .i64 Y, .int .i64 D, .int .i64 Q] := box_get (HW.out ⟨12, .data⟩ (by simp) rfl) rfl
      obtain rfl : x13 = .agg #[.int .i64 c1, .int .i64 c2, .int .i64 c3, .int .i64 c4] := box_get (HW.out ⟨13, .data⟩ (by simp) rfl) rfl
      simp only [putAll, Act.put, List.setIfInBounds_toArray, List.set_cons_succ, List.set_cons_zero, List.set_nil]
      have hE := HE.out
      clear HW
      by_cases hx0 : X = c1
      · subst hx0
        by_cases hx1 : Y = c2
        · subst hx1
          by_cases hx2 : D = c3
          · subst hx2
            by_cases hx3 : Q = c4
            · subst hx3
              obtain rfl : E = true := by rw [← hE]; simp
              clear hE
              go_wp2_with fail
              have fin := HK.out (.bool true) W (Below.refl _ _) rfl
              simp only [putAll, Act.put, List.setIfInBounds_toArray, List.set_cons_succ, List.set_cons_zero, List.set_nil] at fin
              exact fin
            · obtain rfl : E = false := by rw [← hE]; simp [hx3]
              clear hE
              go_wp2_with fail
              have fin := HK.out (.bool false) W (Below.refl _ _) rfl
              simp only [putAll, Act.put, List.setIfInBounds_toArray, List.set_cons_succ, List.set_cons_zero, List.set_nil] at fin
              exact fin
          · obtain rfl : E = false := by rw [← hE]; simp [hx2]
            clear hE
            go_wp2_with fail
            have fin := HK.out (.bool false) W (Below.refl _ _) rfl
            simp only [putAll, Act.put, List.setIfInBounds_toArray, List.set_cons_succ, List.set_cons_zero, List.set_nil] at fin
            exact fin
        · obtain rfl : E = false := by rw [← hE]; simp [hx1]
          clear hE
          go_wp2_with fail
          have fin := HK.out (.bool false) W (Below.refl _ _) rfl
          simp only [putAll, Act.put, List.setIfInBounds_toArray, List.set_cons_succ, List.set_cons_zero, List.set_nil] at fin
          exact fin
      · obtain rfl : E = false := by rw [← hE]; simp [hx0]
        clear hE
        go_wp2_with fail
        have fin := HK.out (.bool false) W (Below.refl _ _) rfl
        simp only [putAll, Act.put, List.setIfInBounds_toArray, List.set_cons_succ, List.set_cons_zero, List.set_nil] at fin
        exact fin
    · rintro vs W K hc hvl hw hK
      obtain ⟨x0, x1, x2, x3, x4, x5, x6, x7, x8, x9, x10, x11, x12, x13, x14, x15, rfl⟩ := len16 hvl
      have HK := Lib.hid hK
      have HC := Lib.hid hc
      have HW := Lib.hid hw
      clear hK hc hw hvl
      obtain rfl : x14 = .bool E := box_get (HW.out ⟨14, .data⟩ (by simp) rfl) rfl
      simp only [putAll, Act.put, List.setIfInBounds_toArray, List.set_cons_succ, List.set_cons_zero, List.set_nil]
      clear HW
      go_wp2_with fail
      have fin := HK.out (.bool E) W (Below.refl _ _) rfl
      simp only [putAll, Act.put, List.setIfInBounds_toArray, List.set_cons_succ, List.set_cons_zero, List.set_nil] at fin
      exact fin
  case fin =>
    rintro vs W hJ
    obtain ⟨x0, x1, x2, x3, x4, x5, x6, x7, x8, x9, x10, x11, x12, x13, x14, x15, rfl⟩ := len16 hJ.ln
    obtain rfl : x15 = .bool E := box_get (hJ.val 15 rfl) rfl
    have HC := Lib.hid hJ.bl
    clear hJ
    simp only [putAll, Act.put, List.setIfInBounds_toArray, List.set_cons_succ, List.set_cons_zero, List.set_nil]
    go_wp2_with fail
    go_ret
    exact ⟨ret_bool HR.out.symm, Below.andThen B2.out HC.out (Nat.le_refl _)⟩
set_option maxRecDepth 100000 in
set_option maxHeartbeats 4000000 in
theorem rIsForce_4 (ps : List Pt) (v vf : Value) (x y z : Int) (w : World) (hv : SlP w v ps) (he : chkP ps = true) (hf : SlI w vf [x, y, z]) (hzl : [x, y, z].length ≤ 1000) (hix : idxOk ps.length [x, y, z] = true) :
    Calls Try.prog 43 #[v, vf] w fun e w' => e = .returned (.bool (riF ps [x, y, z])) ∧ Below w.heap.size w w' := by
  obtain ⟨⟨h1, hl⟩, hpb, hnd⟩ := chkP_iff.1 he
  have HSM := Lib.hid (fun W (hb : Below w.heap.size w W) => rSmallest_any ps v W (hv.grow hb) he)
  have HIN := Lib.hid (fun W (hb : Below w.heap.size w W) => Indices_any ps.length [x, y, z] vf W (hf.grow hb) hzl (by omega))
  have HCB := Lib.hid (circL_bd hpb _ (sm_spec (ps := ps) (by intro e; rw [e] at h1; simp at h1)).1)
  have HIX := Lib.hid (fun (h : idxOk ps.length [x, y, z] = true) => idx_spec h)
  have HRI := Lib.hid (show riF ps [x, y, z] = (idxOk ps.length [x, y, z] && fB ps (smC ps) ([x, y, z].map Int.toNat)) from rfl)
  obtain ⟨a, cap, rfl, hcap, hpt⟩ := hv
  obtain ⟨af, cf, rfl, hcf, hft⟩ := hf
  have HPT := Lib.hid hpt
  have HFT := Lib.hid hft
  have HPB := Lib.hid hpb
  obtain ⟨n, hn⟩ : ∃ n, ps.length = n := ⟨_, rfl⟩
  have HN := Lib.hid hn
  rw [hn] at hl hcap h1 HSM HIN HIX HRI hix ⊢
  have HL := Lib.hid hl
  obtain ⟨g, o, rfl, hpa⟩ : ∃ g o, a = some ⟨g, o, none⟩ ∧ PtsAt w g o ps := HPT.out.resolve_left (fun e => by have := HN.out; rw [e] at this; simp at this; omega)
  have HPA := Lib.hid hpa
  obtain ⟨R, hR⟩ : ∃ R, riF ps [x, y, z] = R := ⟨_, rfl⟩
  rw [hR] at HRI ⊢
  obtain ⟨C, hC⟩ : ∃ C, smC ps = C := ⟨_, rfl⟩
  rw [hC] at HSM HRI HCB
  obtain ⟨c1, c2, c3, c4⟩ := C
  have HSMC := Lib.hid (fun W (hb : Below w.heap.size w W) => show Calls Try.prog 42 #[.slice (some ⟨g, o, none⟩) n cap] W fun e w' => e = .returned (.agg #[.int .i64 c1, .int .i64 c2, .int .i64 c3, .int .i64 c4]) ∧ Below W.heap.size W w' from HSM.out W hb)
  clear hpt hft hpb hn hl he hnd hpa hR hC HSM
  have HIXX := Lib.hid (HIX.out hix)
  have HRR := Lib.hid (show R = fB ps ⟨c1, c2, c3, c4⟩ ([x, y, z].map Int.toNat) by rw [HRI.out, hix]; rfl)
  rw [hix] at HIN
  clear hix HRI HIX
  obtain ⟨h, oh, rfl, hhl, hfa⟩ : ∃ g o, af = some ⟨g, o, none⟩ ∧ g < w.heap.size ∧ IntsAt w g o [x, y, z] := by
    rcases HFT.out with h | h
    · simp at h
    · exact h
  have s0 := HIXX.out 0 (by simp)
  simp only [List.getD_cons_zero, List.getD_cons_succ] at s0
  obtain ⟨i, rfl, l0⟩ := to_nat ⟨s0.1, s0.2.1⟩
  clear s0
  have s1 := HIXX.out 1 (by simp)
  simp only [List.getD_cons_zero, List.getD_cons_succ] at s1
  obtain ⟨j, rfl, l1⟩ := to_nat ⟨s1.1, s1.2.1⟩
  clear s1
  have s2 := HIXX.out 2 (by simp)
  simp only [List.getD_cons_zero, List.getD_cons_succ] at s2
  obtain ⟨k, rfl, l2⟩ := to_nat ⟨s2.1, s2.2.1⟩
  clear s2
  have HF0 := Lib.hid (fun W (hb : Below w.heap.size w W) => show W.cell? ⟨h, oh, none⟩ = some (.int .i64 (i : Int)) from below_at hb hhl (hfa.at_ 0 (by simp)))
  have HX0 := Lib.hid (fun W (hb : Below w.heap.size w W) => pt_cell HPA.out hb HN.out l0)
  have q0 := pt_bd HPB.out HN.out l0
  have HNI0 := Lib.hid (show (i : Int) < (n : Int) by omega)
  have HF1 := Lib.hid (fun W (hb : Below w.heap.size w W) => show W.cell? ⟨h, oh + 1, none⟩ = some (.int .i64 (j : Int)) from below_at hb hhl (hfa.at_ 1 (by simp)))
  have HX1 := Lib.hid (fun W (hb : Below w.heap.size w W) => pt_cell HPA.out hb HN.out l1)
  have q1 := pt_bd HPB.out HN.out l1
  have HNI1 := Lib.hid (show (j : Int) < (n : Int) by omega)
  have HF2 := Lib.hid (fun W (hb : Below w.heap.size w W) => show W.cell? ⟨h, oh + 2, none⟩ = some (.int .i64 (k : Int)) from below_at hb hhl (hfa.at_ 2 (by simp)))
  have HX2 := Lib.hid (fun W (hb : Below w.heap.size w W) => pt_cell HPA.out hb HN.out l2)
  have q2 := pt_bd HPB.out HN.out l2
  have HNI2 := Lib.hid (show (k : Int) < (n : Int) by omega)
  have HRN := Lib.hid (show R = fB ps ⟨c1, c2, c3, c4⟩ [i, j, k] by rw [HRR.out]; rfl)
  clear HRR HIXX HFT hfa hhl
  obtain ⟨⟨a0, b0⟩, e0⟩ : ∃ p, ptAt ps i = p := ⟨_, rfl⟩
  rw [e0] at HX0 q0
  have HQ0 := Lib.hid q0
  obtain ⟨⟨a1, b1⟩, e1⟩ : ∃ p, ptAt ps j = p := ⟨_, rfl⟩
  rw [e1] at HX1 q1
  have HQ1 := Lib.hid q1
  obtain ⟨⟨a2, b2⟩, e2⟩ : ∃ p, ptAt ps k = p := ⟨_, rfl⟩
  rw [e2] at HX2 q2
  have HQ2 := Lib.hid q2
  dsimp only at HX0 HX1 HX2
  obtain ⟨E, hE⟩ : ∃ E, shB ⟨c1, c2, c3, c4⟩ (a0, b0) (a1, b1) (a2, b2) = E := ⟨_, rfl⟩
  have HR := Lib.hid (show R = E by
    rw [HRN.out]
    show shB _ (ptAt ps i) (ptAt ps j) (ptAt ps k) = E
    rw [e0, e1, e2, hE])
  have HW0 := Lib.hid (fun W : World => rWhere_any ⟨c1, c2, c3, c4⟩ a0 b0 W HCB.out HQ0.out.1 HQ0.out.2)
  obtain ⟨A0, hA0⟩ : ∃ A, decide (whF ⟨c1, c2, c3, c4⟩ (a0, b0) = 0) = A := ⟨_, rfl⟩
  have hAb0 : (whF ⟨c1, c2, c3, c4⟩ (a0, b0) == 0) = A0 := by rw [← hA0]; rfl
  have HW1 := Lib.hid (fun W : World => rWhere_any ⟨c1, c2, c3, c4⟩ a1 b1 W HCB.out HQ1.out.1 HQ1.out.2)
  obtain ⟨A1, hA1⟩ : ∃ A, decide (whF ⟨c1, c2, c3, c4⟩ (a1, b1) = 0) = A := ⟨_, rfl⟩
  have hAb1 : (whF ⟨c1, c2, c3, c4⟩ (a1, b1) == 0) = A1 := by rw [← hA1]; rfl
  have HW2 := Lib.hid (fun W : World => rWhere_any ⟨c1, c2, c3, c4⟩ a2 b2 W HCB.out HQ2.out.1 HQ2.out.2)
  obtain ⟨A2, hA2⟩ : ∃ A, decide (whF ⟨c1, c2, c3, c4⟩ (a2, b2) = 0) = A := ⟨_, rfl⟩
  have hAb2 : (whF ⟨c1, c2, c3, c4⟩ (a2, b2) == 0) = A2 := by rw [← hA2]; rfl
  have HC0 := Lib.hid (fun W : World => acute_any a0 b0 a1 b1 a2 b2 W HQ0.out.1 HQ0.out.2 HQ1.out.1 HQ1.out.2 HQ2.out.1 HQ2.out.2)
  obtain ⟨C0, hC0⟩ : ∃ A, decide (0 < dt (a1 - a0, b1 - b0) (a2 - a0, b2 - b0)) = A := ⟨_, rfl⟩
  rw [hC0] at HC0
  have HC1 := Lib.hid (fun W : World => acute_any a1 b1 a2 b2 a0 b0 W HQ1.out.1 HQ1.out.2 HQ2.out.1 HQ2.out.2 HQ0.out.1 HQ0.out.2)
  obtain ⟨C1, hC1⟩ : ∃ A, decide (0 < dt (a2 - a1, b2 - b1) (a0 - a1, b0 - b1)) = A := ⟨_, rfl⟩
  rw [hC1] at HC1
  have HC2 := Lib.hid (fun W : World => acute_any a2 b2 a0 b0 a1 b1 W HQ2.out.1 HQ2.out.2 HQ0.out.1 HQ0.out.2 HQ1.out.1 HQ1.out.2)
  obtain ⟨C2, hC2⟩ : ∃ A, decide (0 < dt (a0 - a2, b0 - b2) (a1 - a2, b1 - b2)) = A := ⟨_, rfl⟩
  rw [hC2] at HC2
  have HTN := Lib.hid (fun W : World => Turn_any a0 b0 a1 b1 a2 b2 W HQ0.out.1 HQ0.out.2 HQ1.out.1 HQ1.out.2 HQ2.out.1 HQ2.out.2)
  have hE3 : E = ((A0 && C0) && (A1 && C1) && (A2 && C2)) := by
    rw [← hE]
    unfold shB shO
    dsimp only
    rw [hA0, hA1, hA2, hC0, hC1, hC2]
  have hT3 : C0 = true → C1 = true → C2 = true → (crs (a1 - a0, b1 - b0) (a2 - a0, b2 - b0) != 0) = true := fun k0 k1 k2 => by
    have := sharp_turn (p := (a0, b0)) (q := (a1, b1)) (r := (a2, b2)) (of_decide_eq_true (hC0.trans k0)) (of_decide_eq_true (hC1.trans k1)) (of_decide_eq_true (hC2.trans k2))
    simpa using this
  have HE3 := Lib.hid hE3
  obtain ⟨T, hT⟩ : ∃ T, (crs (a1 - a0, b1 - b0) (a2 - a0, b2 - b0) != 0) = T := ⟨_, rfl⟩
  rw [hT] at hT3
  have HT3 := Lib.hid hT3
  have HTT := Lib.hid hT
  have HAA := Lib.hid (And.intro (And.intro hA0 hAb0) (And.intro (And.intro hA1 hAb1) (And.intro hA2 hAb2)))
  clear hE hE3 hT3 hT hA0 hA1 hA2 hAb0 hAb1 hAb2 hC0 hC1 hC2 e0 e1 e2 q0 q1 q2 l0 l1 l2 HRN
  generalize whF ⟨c1, c2, c3, c4⟩ (a0, b0) = W0 at *
  generalize whF ⟨c1, c2, c3, c4⟩ (a1, b1) = W1 at *
  generalize whF ⟨c1, c2, c3, c4⟩ (a2, b2) = W2 at *
  generalize crs (a1 - a0, b1 - b0) (a2 - a0, b2 - b0) = cr at *
  go_enter Try.func43, Try.ntmps43
  go_wp2_with fail
  refine (HIN.out w (Below.refl _ _)).mono ?_
  rintro e w1 ⟨rfl, h1⟩
  have B1 := Lib.hid h1
  clear h1
  go_wp2_with fail
  refine (HSMC.out w1 B1.out).mono ?_
  rintro e w2 ⟨rfl, h2⟩
  obtain ⟨bb, rb⟩ := box_start w2 46 [.int .i64 c1, .int .i64 c2, .int .i64 c3, .int .i64 c4]
  have B2 := Lib.hid (Below.andThen B1.out (Below.andThen h2 bb (Nat.le_refl _)) (Nat.le_refl _))
  have RC := Lib.hid rb
  clear h2 bb rb HIN HSMC
  go_wp2_with fail
  generalize w2.alloc (.cells [.int .i64 c1, .int .i64 c2, .int .i64 c3, .int .i64 c4].toArray 46) = V at *
  generalize w2.heap.size = bc at *
  refine wp_region_box (by kernel_rfl) (by kernel_rfl) [42, 43, 44, 45, 46, 47, 48, 49, 50, 51, 52, 53, 54, 55, 56, 57, 58, 59, 6, 7, 8, 1000, 1001, 1002] [(fun v => v = .slice (some ⟨g, o, none⟩) n cap), (fun v => v = .slice (some ⟨h, oh, none⟩) 3 cf), (fun v => v = .pointer (some ⟨h, oh, none⟩)), (fun v => v = .int .i64 (i : Int)), (fun v => v = .pointer (some ⟨g, o + i * 2, none⟩)), (fun v => v = .agg #[.int .i64 a0, .int .i64 b0]), (fun v => v = .slice (some ⟨g, o, none⟩) n cap), (fun v => v = .slice (some ⟨h, oh, none⟩) 3 cf), (fun v => v = .pointer (some ⟨h, oh + 1, none⟩)), (fun v => v = .int .i64 (j : Int)), (fun v => v = .pointer (some ⟨g, o + j * 2, none⟩)), (fun v => v = .agg #[.int .i64 a1, .int .i64 b1]), (fun v => v = .slice (some ⟨g, o, none⟩) n cap), (fun v => v = .slice (some ⟨h, oh, none⟩) 3 cf), (fun v => v = .pointer (some ⟨h, oh + 2, none⟩)), (fun v => v = .int .i64 (k : Int)), (fun v => v = .pointer (some ⟨g, o + k * 2, none⟩)), (fun v => v = .agg #[.int .i64 a2, .int .i64 b2]), (fun _ => True), (fun _ => True), (fun _ => True), (fun _ => True), (fun _ => True), (fun _ => True)] [none, none, none, none, none, none, none, none, none, none, none, none, none, none, none, none, none, none, some (28, [.int .i64 0, .int .i64 0], [.int .i64 a0, .int .i64 b0]), some (28, [.int .i64 0, .int .i64 0], [.int .i64 a1, .int .i64 b1]), some (28, [.int .i64 0, .int .i64 0], [.int .i64 a2, .int .i64 b2]), none, none, none] [none, none, none, none, none, none, none, none, none, none, none, none, none, none, none, none, none, none, none, none, none, some 18, some 19, some 20] 24 rfl (by kernel_rfl) ?tr ⟨_, (putAll_self _ _).symm, rfl⟩ ?steps ?fin
  case tr =>
    rintro i v h
    rcases i with _ | _ | _ | _ | _ | _ | _ | _ | _ | _ | _ | _ | _ | _ | _ | _ | _ | _ | _ | _ | _ | _ | _ | _ | i
    all_goals first | trivial | (exfalso; rcases h with h | h <;> simp at h)
  case steps =>
    simp only [boxSteps, Nat.reduceAdd, Nat.zero_add, List.getD_cons_succ, List.getD_cons_zero]
    refine ⟨?_, ?_, ?_, ?_, ?_, ?_, ?_, ?_, ?_, ?_, ?_, ?_, ?_, ?_, ?_, ?_, ?_, ?_, ?_, ?_, ?_, ?_, ?_, ?_, trivial⟩
    · rintro vs W K hc hvl hw hK
      obtain ⟨x0, x1, x2, x3, x4, x5, x6, x7, x8, x9, x10, x11, x12, x13, x14, x15, x16, x17, x18, x19, x20, x21, x22, x23, rfl⟩ := len24 hvl
      have HK := Lib.hid hK
      have HC := Lib.hid hc
      have HW := Lib.hid hw
      clear hK hc hw hvl
      simp only [putAll, Act.put, List.setIfInBounds_toArray, List.set_cons_succ, List.set_cons_zero, List.set_nil]
      clear HW
      go_wp2_with fail
      have fin := HK.out (.slice (some ⟨g, o, none⟩) n cap) W (Below.refl _ _) rfl
      simp only [putAll, Act.put, List.setIfInBounds_toArray, List.set_cons_succ, List.set_cons_zero, List.set_nil] at fin
      exact fin
    · rintro vs W K hc hvl hw hK
      obtain ⟨x0, x1, x2, x3, x4, x5, x6, x7, x8, x9, x10, x11, x12, x13, x14, x15, x16, x17, x18, x19, x20, x21, x22, x23, rfl⟩ := len24 hvl
      have HK := Lib.hid hK
      have HC := Lib.hid hc
      have HW := Lib.hid hw
      clear hK hc hw hvl
      simp only [putAll, Act.put, List.setIfInBounds_toArray, List.set_cons_succ, List.set_cons_zero, List.set_nil]
      clear HW
      go_wp2_with fail
      have fin := HK.out (.slice (some ⟨h, oh, none⟩) 3 cf) W (Below.refl _ _) rfl
      simp only [putAll, Act.put, List.setIfInBounds_toArray, List.set_cons_succ, List.set_cons_zero, List.set_nil] at fin
      exact fin
    · rintro vs W K hc hvl hw hK
      obtain ⟨x0, x1, x2, x3, x4, x5, x6, x7, x8, x9, x10, x11, x12, x13, x14, x15, x16, x17, x18, x19, x20, x21, x22, x23, rfl⟩ := len24 hvl
      have HK := Lib.hid hK
      have HC := Lib.hid hc
      have HW := Lib.hid hw
      clear hK hc hw hvl
      obtain rfl : x1 = .slice (some ⟨h, oh, none⟩) 3 cf := box_get (HW.out ⟨1, .data⟩ (by simp) rfl) rfl
      simp only [putAll, Act.put, List.setIfInBounds_toArray, List.set_cons_succ, List.set_cons_zero, List.set_nil]
      clear HW
      go_wp2_with fail
      have fin := HK.out (.pointer (some ⟨h, oh, none⟩)) W (Below.refl _ _) rfl
      simp only [putAll, Act.put, List.setIfInBounds_toArray, List.set_cons_succ, List.set_cons_zero, List.set_nil] at fin
      exact fin
    · rintro vs W K hc hvl hw hK
      obtain ⟨x0, x1, x2, x3, x4, x5, x6, x7, x8, x9, x10, x11, x12, x13, x14, x15, x16, x17, x18, x19, x20, x21, x22, x23, rfl⟩ := len24 hvl
      have HK := Lib.hid hK
      have HC := Lib.hid hc
      have HW := Lib.hid hw
      clear hK hc hw hvl
      obtain rfl : x2 = .pointer (some ⟨h, oh, none⟩) := box_get (HW.out ⟨2, .data⟩ (by simp) rfl) rfl
      simp only [putAll, Act.put, List.setIfInBounds_toArray, List.set_cons_succ, List.set_cons_zero, List.set_nil]
      have d0 := HF0.out W (Below.andThen B2.out HC.out (Nat.le_refl _))
      clear HW
      go_wp2_with fail
      have fin := HK.out (.int .i64 (i : Int)) W (Below.refl _ _) rfl
      simp only [putAll, Act.put, List.setIfInBounds_toArray, List.set_cons_succ, List.set_cons_zero, List.set_nil] at fin
      exact fin
    · rintro vs W K hc hvl hw hK
      obtain ⟨x0, x1, x2, x3, x4, x5, x6, x7, x8, x9, x10, x11, x12, x13, x14, x15, x16, x17, x18, x19, x20, x21, x22, x23, rfl⟩ := len24 hvl
      have HK := Lib.hid hK
      have HC := Lib.hid hc
      have HW := Lib.hid hw
      clear hK hc hw hvl
      obtain rfl : x0 = .slice (some ⟨g, o, none⟩) n cap := box_get (HW.out ⟨0, .data⟩ (by simp) rfl) rfl
      obtain rfl : x3 = .int .i64 (i : Int) := box_get (HW.out ⟨3, .data⟩ (by simp) rfl) rfl
      simp only [putAll, Act.put, List.setIfInBounds_toArray, List.set_cons_succ, List.set_cons_zero, List.set_nil]
      have hi1 := HNI0.out
      clear HW
      go_wp2_with fail
      have fin := HK.out (.pointer (some ⟨g, o + i * 2, none⟩)) W (Below.refl _ _) rfl
      simp only [putAll, Act.put, List.setIfInBounds_toArray, List.set_cons_succ, List.set_cons_zero, List.set_nil] at fin
      exact fin
    · rintro vs W K hc hvl hw hK
      obtain ⟨x0, x1, x2, x3, x4, x5, x6, x7, x8, x9, x10, x11, x12, x13, x14, x15, x16, x17, x18, x19, x20, x21, x22, x23, rfl⟩ := len24 hvl
      have HK := Lib.hid hK
      have HC := Lib.hid hc
      have HW := Lib.hid hw
      clear hK hc hw hvl
      obtain rfl : x4 = .pointer (some ⟨g, o + i * 2, none⟩) := box_get (HW.out ⟨4, .data⟩ (by simp) rfl) rfl
      simp only [putAll, Act.put, List.setIfInBounds_toArray, List.set_cons_succ, List.set_cons_zero, List.set_nil]
      have d0 := (HX0.out W (Below.andThen B2.out HC.out (Nat.le_refl _))).1
      have d1 := (HX0.out W (Below.andThen B2.out HC.out (Nat.le_refl _))).2
      clear HW
      go_wp2_with fail
      have fin := HK.out (.agg #[.int .i64 a0, .int .i64 b0]) W (Below.refl _ _) rfl
      simp only [putAll, Act.put, List.setIfInBounds_toArray, List.set_cons_succ, List.set_cons_zero, List.set_nil] at fin
      exact fin
    · rintro vs W K hc hvl hw hK
      obtain ⟨x0, x1, x2, x3, x4, x5, x6, x7, x8, x9, x10, x11, x12, x13, x14, x15, x16, x17, x18, x19, x20, x21, x22, x23, rfl⟩ := len24 hvl
      have HK := Lib.hid hK
      have HC := Lib.hid hc
      have HW := Lib.hid hw
      clear hK hc hw hvl
      simp only [putAll, Act.put, List.setIfInBounds_toArray, List.set_cons_succ, List.set_cons_zero, List.set_nil]
      clear HW
      go_wp2_with fail
      have fin := HK.out (.slice (some ⟨g, o, none⟩) n cap) W (Below.refl _ _) rfl
      simp only [putAll, Act.put, List.setIfInBounds_toArray, List.set_cons_succ, List.set_cons_zero, List.set_nil] at fin
      exact fin
    · rintro vs W K hc hvl hw hK
      obtain ⟨x0, x1, x2, x3, x4, x5, x6, x7, x8, x9, x10, x11, x12, x13, x14, x15, x16, x17, x18, x19, x20, x21, x22, x23, rfl⟩ := len24 hvl
      have HK := Lib.hid hK
      have HC := Lib.hid hc
      have HW := Lib.hid hw
      clear hK hc hw hvl
      simp only [putAll, Act.put, List.setIfInBounds_toArray, List.set_cons_succ, List.set_cons_zero, List.set_nil]
      clear HW
      go_wp2_with fail
      have fin := HK.out (.slice (some ⟨h, oh, none⟩) 3 cf) W (Below.refl _ _) rfl
      simp only [putAll, Act.put, List.setIfInBounds_toArray, List.set_cons_succ, List.set_cons_zero, List.set_nil] at fin
      exact fin
    · rintro vs W K hc hvl hw hK
      obtain ⟨x0, x1, x2, x3, x4, x5, x6, x7, x8, x9, x10, x11, x12, x13, x14, x15, x16, x17, x18, x19, x20, x21, x22, x23, rfl⟩ := len24 hvl
      have HK := Lib.hid hK
      have HC := Lib.hid hc
      have HW := Lib.hid hw
      clear hK hc hw hvl
      obtain rfl : x7 = .slice (some ⟨h, oh, none⟩) 3 cf := box_get (HW.out ⟨7, .data⟩ (by simp) rfl) rfl
      simp only [putAll, Act.put, List.setIfInBounds_toArray, List.set_cons_succ, List.set_cons_zero, List.set_nil]
      clear HW
      go_wp2_with fail
      have fin := HK.out (.pointer (some ⟨h, oh + 1, none⟩)) W (Below.refl _ _) rfl
      simp only [putAll, Act.put, List.setIfInBounds_toArray, List.set_cons_succ, List.set_cons_zero, List.set_nil] at fin
      exact fin
    · rintro vs W K hc hvl hw hK
      obtain ⟨x0, x1, x2, x3, x4, x5, x6, x7, x8, x9, x10, x11, x12, x13, x14, x15, x16, x17, x18, x19, x20, x21, x22, x23, rfl⟩ := len24 hvl
      have HK := Lib.hid hK
      have HC := Lib.hid hc
      have HW := Lib.hid hw
      clear hK hc hw hvl
      obtain rfl : x8 = .pointer (some ⟨h, oh + 1, none⟩) := box_get (HW.out ⟨8, .data⟩ (by simp) rfl) rfl
      simp only [putAll, Act.put, List.setIfInBounds_toArray, List.set_cons_succ, List.set_cons_zero, List.set_nil]
      have d0 := HF1.out W (Below.andThen B2.out HC.out (Nat.le_refl _))
      clear HW
      go_wp2_with fail
      have fin := HK.out (.int .i64 (j : Int)) W (Below.refl _ _) rfl
      simp only [putAll, Act.put, List.setIfInBounds_toArray, List.set_cons_succ, List.set_cons_zero, List.set_nil] at fin
      exact fin
    · rintro vs W K hc hvl hw hK
      obtain ⟨x0, x1, x2, x3, x4, x5, x6, x7, x8, x9, x10, x11, x12, x13, x14, x15, x16, x17, x18, x19, x20, x21, x22, x23, rfl⟩ := len24 hvl
      have HK := Lib.hid hK
      have HC := Lib.hid hc
      have HW := Lib.hid hw
      clear hK hc hw hvl
      obtain rfl : x6 = .slice (some ⟨g, o, none⟩) n cap := box_get (HW.out ⟨6, .data⟩ (by simp) rfl) rfl
      obtain rfl : x9 = .int .i64 (j : Int) := box_get (HW.out ⟨9, .data⟩ (by simp) rfl) rfl
      simp only [putAll, Act.put, List.setIfInBounds_toArray, List.set_cons_succ, List.set_cons_zero, List.set_nil]
      have hi1 := HNI1.out
      clear HW
      go_wp2_with fail
      have fin := HK.out (.pointer (some ⟨g, o + j * 2, none⟩)) W (Below.refl _ _) rfl
      simp only [putAll, Act.put, List.setIfInBounds_toArray, List.set_cons_succ, List.set_cons_zero, List.set_nil] at fin
      exact fin
    · rintro vs W K hc hvl hw hK
      obtain ⟨x0, x1, x2, x3, x4, x5, x6, x7, x8, x9, x10, x11, x12, x13, x14, x15, x16, x17, x18, x19, x20, x21, x22, x23, rfl⟩ := len24 hvl
      have HK := Lib.hid hK
      have HC := Lib.hid hc
      have HW := Lib.hid hw
      clear hK hc hw hvl
      obtain rfl : x10 = .pointer (some ⟨g, o + j * 2, none⟩) := box_get (HW.out ⟨10, .data⟩ (by simp) rfl) rfl
      simp only [putAll, Act.put, List.setIfInBounds_toArray, List.set_cons_succ, List.set_cons_zero, List.set_nil]
      have d0 := (HX1.out W (Below.andThen B2.out HC.out (Nat.le_refl _))).1
      have d1 := (HX1.out W (Below.andThen B2.out HC.out (Nat.le_refl _))).2
      clear HW
      go_wp2_with fail
      have fin := HK.out (.agg #[.int .i64 a1, .int .i64 b1]) W (Below.refl _ _) rfl
      simp only [putAll, Act.put, List.setIfInBounds_toArray, List.set_cons_succ, List.set_cons_zero, List.set_nil] at fin
      exact fin
    · rintro vs W K hc hvl hw hK
      obtain ⟨x0, x1, x2, x3, x4, x5, x6, x7, x8, x9, x10, x11, x12, x13, x14, x15, x16, x17, x18, x19, x20, x21, x22, x23, rfl⟩ := len24 hvl
      have HK := Lib.hid hK
      have HC := Lib.hid hc
      have HW := Lib.hid hw
      clear hK hc hw hvl
      simp only [putAll, Act.put, List.setIfInBounds_toArray, List.set_cons_succ, List.set_cons_zero, List.set_nil]
      clear HW
      go_wp2_with fail
      have fin := HK.out (.slice (some ⟨g, o, none⟩) n cap) W (Below.refl _ _) rfl
      simp only [putAll, Act.put, List.setIfInBounds_toArray, List.set_cons_succ, List.set_cons_zero, List.set_nil] at fin
      exact fin
    · rintro vs W K hc hvl hw hK
      obtain ⟨x0, x1, x2, x3, x4, x5, x6, x7, x8, x9, x10, x11, x12, x13, x14, x15, x16, x17, x18, x19, x20, x21, x22, x23, rfl⟩ := len24 hvl
      have HK := Lib.hid hK
      have HC := Lib.hid hc
      have HW := Lib.hid hw
      clear hK hc hw hvl
      simp only [putAll, Act.put, List.setIfInBounds_toArray, List.set_cons_succ, List.set_cons_zero, List.set_nil]
      clear HW
      go_wp2_with fail
      have fin := HK.out (.slice (some ⟨h, oh, none⟩) 3 cf) W (Below.refl _ _) rfl
      simp only [putAll, Act.put, List.setIfInBounds_toArray, List.set_cons_succ, List.set_cons_zero, List.set_nil] at fin
      exact fin
    · rintro vs W K hc hvl hw hK
      obtain ⟨x0, x1, x2, x3, x4, x5, x6, x7, x8, x9, x10, x11, x12, x13, x14, x15, x16, x17, x18, x19, x20, x21, x22, x23, rfl⟩ := len24 hvl
      have HK := Lib.hid hK
      have HC := Lib.hid hc
      have HW := Lib.hid hw
      clear hK hc hw hvl
      obtain rfl : x13 = .slice (some ⟨h, oh, none⟩) 3 cf := box_get (HW.out ⟨13, .data⟩ (by simp) rfl) rfl
      simp only [putAll, Act.put, List.setIfInBounds_toArray, List.set_cons_succ, List.set_cons_zero, List.set_nil]
      clear HW
      go_wp2_with fail
      have fin := HK.out (.pointer (some ⟨h, oh + 2, none⟩)) W (Below.refl _ _) rfl
      simp only [putAll, Act.put, List.setIfInBounds_toArray, List.set_cons_succ, List.set_cons_zero, List.set_nil] at fin
      exact fin
    · rintro vs W K hc hvl hw hK
      obtain ⟨x0, x1, x2, x3, x4, x5, x6, x7, x8, x9, x10, x11, x12, x13, x14, x15, x16, x17, x18, x19, x20, x21, x22, x23, rfl⟩ := len24 hvl
      have HK := Lib.hid hK
      have HC := Lib.hid hc
      have HW := Lib.hid hw
      clear hK hc hw hvl
      obtain rfl : x14 = .pointer (some ⟨h, oh + 2, none⟩) := box_get (HW.out ⟨14, .data⟩ (by simp) rfl) rfl
      simp only [putAll, Act.put, List.setIfInBounds_toArray, List.set_cons_succ, List.set_cons_zero, List.set_nil]
      have d0 := HF2.out W (Below.andThen B2.out HC.out (Nat.le_refl _))
      clear HW
      go_wp2_with fail
      have fin := HK.out (.int .i64 (k : Int)) W (Below.refl _ _) rfl
      simp only [putAll, Act.put, List.setIfInBounds_toArray, List.set_cons_succ, List.set_cons_zero, List.set_nil] at fin
      exact fin
    · rintro vs W K hc hvl hw hK
      obtain ⟨x0, x1, x2, x3, x4, x5, x6, x7, x8, x9, x10, x11, x12, x13, x14, x15, x16, x17, x18, x19, x20, x21, x22, x23, rfl⟩ := len24 hvl
      have HK := Lib.hid hK
      have HC := Lib.hid hc
      have HW := Lib.hid hw
      clear hK hc hw hvl
      obtain rfl : x12 = .slice (some ⟨g, o, none⟩) n cap := box_get (HW.out ⟨12, .data⟩ (by simp) rfl) rfl
      obtain rfl : x15 = .int .i64 (k : Int) := box_get (HW.out ⟨15, .data⟩ (by simp) rfl) rfl
      simp only [putAll, Act.put, List.setIfInBounds_toArray, List.set_cons_succ, List.set_cons_zero, List.set_nil]
      have hi1 := HNI2.out
      clear HW
      go_wp2_with fail
      have fin := HK.out (.pointer (some ⟨g, o + k * 2, none⟩)) W (Below.refl _ _) rfl
      simp only [putAll, Act.put, List.setIfInBounds_toArray, List.set_cons_succ, List.set_cons_zero, List.set_nil] at fin
      exact fin
    · rintro vs W K hc hvl hw hK
      obtain ⟨x0, x1, x2, x3, x4, x5, x6, x7, x8, x9, x10, x11, x12, x13, x14, x15, x16, x17, x18, x19, x20, x21, x22, x23, rfl⟩ := len24 hvl
      have HK := Lib.hid hK
      have HC := Lib.hid hc
      have HW := Lib.hid hw
      clear hK hc hw hvl
      obtain rfl : x16 = .pointer (some ⟨g, o + k * 2, none⟩) := box_get (HW.out ⟨16, .data⟩ (by simp) rfl) rfl
      simp only [putAll, Act.put, List.setIfInBounds_toArray, List.set_cons_succ, List.set_cons_zero, List.set_nil]
      have d0 := (HX2.out W (Below.andThen B2.out HC.out (Nat.le_refl _))).1
      have d1 := (HX2.out W (Below.andThen B2.out HC.out (Nat.le_refl _))).2
      clear HW
      go_wp2_with fail
      have fin := HK.out (.agg #[.int .i64 a2, .int .i64 b2]) W (Below.refl _ _) rfl
      simp only [putAll, Act.put, List.setIfInBounds_toArray, List.set_cons_succ, List.set_cons_zero, List.set_nil] at fin
      exact fin
    · rintro vs W K hc hvl hw hK
      obtain ⟨x0, x1, x2, x3, x4, x5, x6, x7, x8, x9, x10, x11, x12, x13, x14, x15, x16, x17, x18, x19, x20, x21, x22, x23, rfl⟩ := len24 hvl
      have HK := Lib.hid hK
      have HC := Lib.hid hc
      have HW := Lib.hid hw
      clear hK hc hw hvl
      simp only [putAll, Act.put, List.setIfInBounds_toArray, List.set_cons_succ, List.set_cons_zero, List.set_nil]
      clear HW
      go_wp2_with fail
      have fin := HK.out
      simp only [putAll, Act.put, List.setIfInBounds_toArray, List.set_cons_succ, List.set_cons_zero, List.set_nil] at fin
      exact fin
    · rintro vs W K hc hvl hw hK
      obtain ⟨x0, x1, x2, x3, x4, x5, x6, x7, x8, x9, x10, x11, x12, x13, x14, x15, x16, x17, x18, x19, x20, x21, x22, x23, rfl⟩ := len24 hvl
      have HK := Lib.hid hK
      have HC := Lib.hid hc
      have HW := Lib.hid hw
      clear hK hc hw hvl
      simp only [putAll, Act.put, List.setIfInBounds_toArray, List.set_cons_succ, List.set_cons_zero, List.set_nil]
      clear HW
      go_wp2_with fail
      have fin := HK.out
      simp only [putAll, Act.put, List.setIfInBounds_toArray, List.set_cons_succ, List.set_cons_zero, List.set_nil] at fin
      exact fin
    · rintro vs W K hc hvl hw hK
      obtain ⟨x0, x1, x2, x3, x4, x5, x6, x7, x8, x9, x10, x11, x12, x13, x14, x15, x16, x17, x18, x19, x20, x21, x22, x23, rfl⟩ := len24 hvl
      have HK := Lib.hid hK
      have HC := Lib.hid hc
      have HW := Lib.hid hw
      clear hK hc hw hvl
      simp only [putAll, Act.put, List.setIfInBounds_toArray, List.set_cons_succ, List.set_cons_zero, List.set_nil]
      clear HW
      go_wp2_with fail
      have fin := HK.out
      simp only [putAll, Act.put, List.setIfInBounds_toArray, List.set_cons_succ, List.set_cons_zero, List.set_nil] at fin
      exact fin
    · rintro vs W K hc hvl hw b E z f hia hva hb0 hr hK
      cases hia
      obtain ⟨x0, x1, x2, x3, x4, x5, x6, x7, x8, x9, x10, x11, x12, x13, x14, x15, x16, x17, x18, x19, x20, x21, x22, x23, rfl⟩ := len24 hvl
      have HK := Lib.hid hK
      have HC := Lib.hid hc
      have HW := Lib.hid hw
      clear hK hc hw hvl
      obtain rfl : x5 = .agg #[.int .i64 a0, .int .i64 b0] := box_get (HW.out ⟨5, .data⟩ (by simp) rfl) rfl
      obtain rfl : x18 = .pointer (some ⟨b, 0, none⟩) := Option.some.inj hva
      simp only [putAll, Act.put, List.setIfInBounds_toArray, List.set_cons_succ, List.set_cons_zero, List.set_nil]
      have kf0 := frozen_of_row W b 0 _ _ hr
      have kc0 : W.cell? ⟨b, 0, none⟩ = some (.int .i64 0) := hr.cell 0
      have kf1 := frozen_of_row W b 1 _ _ hr
      have kc1 : W.cell? ⟨b, 1, none⟩ = some (.int .i64 0) := hr.cell 1
      have HRW := Lib.hid hr
      clear HW hr hva
      go_wp2_with fail
      have fin := HK.out _ (show Row _ b 28 [.int .i64 a0, .int .i64 b0] from by simpa using (show Row _ b 28 _ from ((HRW.out.set 0 (.int .i64 a0)).set 1 (.int .i64 b0)))) (grown_put (grown_put (grown_self W _)))
      simp only [putAll, Act.put, List.setIfInBounds_toArray, List.set_cons_succ, List.set_cons_zero, List.set_nil] at fin
      exact fin
    · rintro vs W K hc hvl hw b E z f hia hva hb0 hr hK
      cases hia
      obtain ⟨x0, x1, x2, x3, x4, x5, x6, x7, x8, x9, x10, x11, x12, x13, x14, x15, x16, x17, x18, x19, x20, x21, x22, x23, rfl⟩ := len24 hvl
      have HK := Lib.hid hK
      have HC := Lib.hid hc
      have HW := Lib.hid hw
      clear hK hc hw hvl
      obtain rfl : x11 = .agg #[.int .i64 a1, .int .i64 b1] := box_get (HW.out ⟨11, .data⟩ (by simp) rfl) rfl
      obtain rfl : x19 = .pointer (some ⟨b, 0, none⟩) := Option.some.inj hva
      simp only [putAll, Act.put, List.setIfInBounds_toArray, List.set_cons_succ, List.set_cons_zero, List.set_nil]
      have kf0 := frozen_of_row W b 0 _ _ hr
      have kc0 : W.cell? ⟨b, 0, none⟩ = some (.int .i64 0) := hr.cell 0
      have kf1 := frozen_of_row W b 1 _ _ hr
      have kc1 : W.cell? ⟨b, 1, none⟩ = some (.int .i64 0) := hr.cell 1
      have HRW := Lib.hid hr
      clear HW hr hva
      go_wp2_with fail
      have fin := HK.out _ (show Row _ b 28 [.int .i64 a1, .int .i64 b1] from by simpa using (show Row _ b 28 _ from ((HRW.out.set 0 (.int .i64 a1)).set 1 (.int .i64 b1)))) (grown_put (grown_put (grown_self W _)))
      simp only [putAll, Act.put, List.setIfInBounds_toArray, List.set_cons_succ, List.set_cons_zero, List.set_nil] at fin
      exact fin
    · rintro vs W K hc hvl hw b E z f hia hva hb0 hr hK
      cases hia
      obtain ⟨x0, x1, x2, x3, x4, x5, x6, x7, x8, x9, x10, x11, x12, x13, x14, x15, x16, x17, x18, x19, x20, x21, x22, x23, rfl⟩ := len24 hvl
      have HK := Lib.hid hK
      have HC := Lib.hid hc
      have HW := Lib.hid hw
      clear hK hc hw hvl
      obtain rfl : x17 = .agg #[.int .i64 a2, .int .i64 b2] := box_get (HW.out ⟨17, .data⟩ (by simp) rfl) rfl
      obtain rfl : x20 = .pointer (some ⟨b, 0, none⟩) := Option.some.inj hva
      simp only [putAll, Act.put, List.setIfInBounds_toArray, List.set_cons_succ, List.set_cons_zero, List.set_nil]
      have kf0 := frozen_of_row W b 0 _ _ hr
      have kc0 : W.cell? ⟨b, 0, none⟩ = some (.int .i64 0) := hr.cell 0
      have kf1 := frozen_of_row W b 1 _ _ hr
      have kc1 : W.cell? ⟨b, 1, none⟩ = some (.int .i64 0) := hr.cell 1
      have HRW := Lib.hid hr
      clear HW hr hva
      go_wp2_with fail
      have fin := HK.out _ (show Row _ b 28 [.int .i64 a2, .int .i64 b2] from by simpa using (show Row _ b 28 _ from ((HRW.out.set 0 (.int .i64 a2)).set 1 (.int .i64 b2)))) (grown_put (grown_put (grown_self W _)))
      simp only [putAll, Act.put, List.setIfInBounds_toArray, List.set_cons_succ, List.set_cons_zero, List.set_nil] at fin
      exact fin
  case fin =>
    rintro vs W hJ
    obtain ⟨x0, x1, x2, x3, x4, x5, x6, x7, x8, x9, x10, x11, x12, x13, x14, x15, x16, x17, x18, x19, x20, x21, x22, x23, rfl⟩ := len24 hJ.ln
    obtain ⟨b18, e18, hb18, hr18⟩ := hJ.box 18 _ _ _ rfl rfl
    obtain rfl : x18 = .pointer (some ⟨b18, 0, none⟩) := Option.some.inj e18
    replace hr18 : Row W b18 28 [.int .i64 a0, .int .i64 b0] := hr18
    have HR18 := Lib.hid hr18
    clear e18 hr18
    obtain ⟨b19, e19, hb19, hr19⟩ := hJ.box 19 _ _ _ rfl rfl
    obtain rfl : x19 = .pointer (some ⟨b19, 0, none⟩) := Option.some.inj e19
    replace hr19 : Row W b19 28 [.int .i64 a1, .int .i64 b1] := hr19
    have HR19 := Lib.hid hr19
    clear e19 hr19
    obtain ⟨b20, e20, hb20, hr20⟩ := hJ.box 20 _ _ _ rfl rfl
    obtain rfl : x20 = .pointer (some ⟨b20, 0, none⟩) := Option.some.inj e20
    replace hr20 : Row W b20 28 [.int .i64 a2, .int .i64 b2] := hr20
    have HR20 := Lib.hid hr20
    clear e20 hr20
    have HC := Lib.hid hJ.bl
    clear hJ
    simp only [putAll, Act.put, List.setIfInBounds_toArray, List.set_cons_succ, List.set_cons_zero, List.set_nil]
    have RCx := Lib.hid (RC.out.below HC.out RC.out.lt)
    have RPx := Lib.hid HR18.out
    have RQx := Lib.hid HR19.out
    have RRx := Lib.hid HR20.out
    have BWx := Lib.hid (Below.andThen B2.out HC.out (Nat.le_refl _))
    clear HC HR18 HR19 HR20 hb18 hb19 hb20 RC B2 HX0 HX1 HX2 HF0 HF1 HF2
    cases A0 with
    | false =>
      have HRE := Lib.hid (show R = false by rw [HR.out, HE3.out]; simp)
      have f0 := HAA.out.1.1
      have g0 := HAA.out.1.2
      have q1_c := RCx.out
      have c1_c_0 := q1_c.cell 0
      have c1_c_1 := q1_c.cell 1
      have c1_c_2 := q1_c.cell 2
      have c1_c_3 := q1_c.cell 3
      simp only [List.getElem?_cons_zero, List.getElem?_cons_succ] at c1_c_0 c1_c_1 c1_c_2 c1_c_3
      clear q1_c
      have q2_p := RPx.out
      have c2_p_0 := q2_p.cell 0
      have c2_p_1 := q2_p.cell 1
      simp only [List.getElem?_cons_zero, List.getElem?_cons_succ] at c2_p_0 c2_p_1
      clear q2_p
      go_wp2_with fail
      refine (HW0.out _).mono ?_
      rintro e w1 ⟨rfl, h1⟩
      have Rq3_c := Lib.hid (RCx.out.below h1 RCx.out.lt)
      have Rq3_p := Lib.hid (RPx.out.below h1 RPx.out.lt)
      have Rq3_q := Lib.hid (RQx.out.below h1 RQx.out.lt)
      have Rq3_r := Lib.hid (RRx.out.below h1 RRx.out.lt)
      have Bq3 := Lib.hid (Below.andThen BWx.out h1 (Nat.le_refl _))
      clear h1 RCx RPx RQx RRx BWx c1_c_0 c1_c_1 c1_c_2 c1_c_3 c2_p_0 c2_p_1
      go_wp2_with fail
      go_ret
      exact ⟨ret_bool HRE.out.symm, Bq3.out⟩
    | true =>
      cases A1 with
      | false =>
        have HRE := Lib.hid (show R = false by rw [HR.out, HE3.out]; simp)
        have f0 := HAA.out.1.1
        have g0 := HAA.out.1.2
        have f1 := HAA.out.2.1.1
        have g1 := HAA.out.2.1.2
        have q1_c := RCx.out
        have c1_c_0 := q1_c.cell 0
        have c1_c_1 := q1_c.cell 1
        have c1_c_2 := q1_c.cell 2
        have c1_c_3 := q1_c.cell 3
        simp only [List.getElem?_cons_zero, List.getElem?_cons_succ] at c1_c_0 c1_c_1 c1_c_2 c1_c_3
        clear q1_c
        have q2_p := RPx.out
        have c2_p_0 := q2_p.cell 0
        have c2_p_1 := q2_p.cell 1
        simp only [List.getElem?_cons_zero, List.getElem?_cons_succ] at c2_p_0 c2_p_1
        clear q2_p
        go_wp2_with fail
        refine (HW0.out _).mono ?_
        rintro e w1 ⟨rfl, h1⟩
        have Rq3_c := Lib.hid (RCx.out.below h1 RCx.out.lt)
        have Rq3_p := Lib.hid (RPx.out.below h1 RPx.out.lt)
        have Rq3_q := Lib.hid (RQx.out.below h1 RQx.out.lt)
        have Rq3_r := Lib.hid (RRx.out.below h1 RRx.out.lt)
        have Bq3 := Lib.hid (Below.andThen BWx.out h1 (Nat.le_refl _))
        clear h1 RCx RPx RQx RRx BWx c1_c_0 c1_c_1 c1_c_2 c1_c_3 c2_p_0 c2_p_1
        have q4_c := Rq3_c.out
        have c4_c_0 := q4_c.cell 0
        have c4_c_1 := q4_c.cell 1
        have c4_c_2 := q4_c.cell 2
        have c4_c_3 := q4_c.cell 3
        simp only [List.getElem?_cons_zero, List.getElem?_cons_succ] at c4_c_0 c4_c_1 c4_c_2 c4_c_3
        clear q4_c
        have q5_q := Rq3_q.out
        have c5_q_0 := q5_q.cell 0
        have c5_q_1 := q5_q.cell 1
        simp only [List.getElem?_cons_zero, List.getElem?_cons_succ] at c5_q_0 c5_q_1
        clear q5_q
        go_wp2_with fail
        refine (HW1.out _).mono ?_
        rintro e w2 ⟨rfl, h2⟩
        have Rq6_c := Lib.hid (Rq3_c.out.below h2 Rq3_c.out.lt)
        have Rq6_p := Lib.hid (Rq3_p.out.below h2 Rq3_p.out.lt)
        have Rq6_q := Lib.hid (Rq3_q.out.below h2 Rq3_q.out.lt)
        have Rq6_r := Lib.hid (Rq3_r.out.below h2 Rq3_r.out.lt)
        have Bq6 := Lib.hid (Below.andThen Bq3.out h2 (Nat.le_refl _))
        clear h2 Rq3_c Rq3_p Rq3_q Rq3_r Bq3 c4_c_0 c4_c_1 c4_c_2 c4_c_3 c5_q_0 c5_q_1
        go_wp2_with fail
        go_ret
        exact ⟨ret_bool HRE.out.symm, Bq6.out⟩
      | true =>
        cases A2 with
        | false =>
          have HRE := Lib.hid (show R = false by rw [HR.out, HE3.out]; simp)
          have f0 := HAA.out.1.1
          have g0 := HAA.out.1.2
          have f1 := HAA.out.2.1.1
          have g1 := HAA.out.2.1.2
          have f2 := HAA.out.2.2.1
          have g2 := HAA.out.2.2.2
          have q1_c := RCx.out
          have c1_c_0 := q1_c.cell 0
          have c1_c_1 := q1_c.cell 1
          have c1_c_2 := q1_c.cell 2
          have c1_c_3 := q1_c.cell 3
          simp only [List.getElem?_cons_zero, List.getElem?_cons_succ] at c1_c_0 c1_c_1 c1_c_2 c1_c_3
          clear q1_c
          have q2_p := RPx.out
          have c2_p_0 := q2_p.cell 0
          have c2_p_1 := q2_p.cell 1
          simp only [List.getElem?_cons_zero, List.getElem?_cons_succ] at c2_p_0 c2_p_1
          clear q2_p
          go_wp2_with fail
          refine (HW0.out _).mono ?_
          rintro e w1 ⟨rfl, h1⟩
          have Rq3_c := Lib.hid (RCx.out.below h1 RCx.out.lt)
          have Rq3_p := Lib.hid (RPx.out.below h1 RPx.out.lt)
          have Rq3_q := Lib.hid (RQx.out.below h1 RQx.out.lt)
          have Rq3_r := Lib.hid (RRx.out.below h1 RRx.out.lt)
          have Bq3 := Lib.hid (Below.andThen BWx.out h1 (Nat.le_refl _))
          clear h1 RCx RPx RQx RRx BWx c1_c_0 c1_c_1 c1_c_2 c1_c_3 c2_p_0 c2_p_1
          have q4_c := Rq3_c.out
          have c4_c_0 := q4_c.cell 0
          have c4_c_1 := q4_c.cell 1
          have c4_c_2 := q4_c.cell 2
          have c4_c_3 := q4_c.cell 3
          simp only [List.getElem?_cons_zero, List.getElem?_cons_succ] at c4_c_0 c4_c_1 c4_c_2 c4_c_3
          clear q4_c
          have q5_q := Rq3_q.out
          have c5_q_0 := q5_q.cell 0
          have c5_q_1 := q5_q.cell 1
          simp only [List.getElem?_cons_zero, List.getElem?_cons_succ] at c5_q_0 c5_q_1
          clear q5_q
          go_wp2_with fail
          refine (HW1.out _).mono ?_
          rintro e w2 ⟨rfl, h2⟩
          have Rq6_c := Lib.hid (Rq3_c.out.below h2 Rq3_c.out.lt)
          have Rq6_p := Lib.hid (Rq3_p.out.below h2 Rq3_p.out.lt)
          have Rq6_q := Lib.hid (Rq3_q.out.below h2 Rq3_q.out.lt)
          have Rq6_r := Lib.hid (Rq3_r.out.below h2 Rq3_r.out.lt)
          have Bq6 := Lib.hid (Below.andThen Bq3.out h2 (Nat.le_refl _))
          clear h2 Rq3_c Rq3_p Rq3_q Rq3_r Bq3 c4_c_0 c4_c_1 c4_c_2 c4_c_3 c5_q_0 c5_q_1
          have q7_c := Rq6_c.out
          have c7_c_0 := q7_c.cell 0
          have c7_c_1 := q7_c.cell 1
          have c7_c_2 := q7_c.cell 2
          have c7_c_3 := q7_c.cell 3
          simp only [List.getElem?_cons_zero, List.getElem?_cons_succ] at c7_c_0 c7_c_1 c7_c_2 c7_c_3
          clear q7_c
          have q8_r := Rq6_r.out
          have c8_r_0 := q8_r.cell 0
          have c8_r_1 := q8_r.cell 1
          simp only [List.getElem?_cons_zero, List.getElem?_cons_succ] at c8_r_0 c8_r_1
          clear q8_r
          go_wp2_with fail
          refine (HW2.out _).mono ?_
          rintro e w3 ⟨rfl, h3⟩
          have Rq9_c := Lib.hid (Rq6_c.out.below h3 Rq6_c.out.lt)
          have Rq9_p := Lib.hid (Rq6_p.out.below h3 Rq6_p.out.lt)
          have Rq9_q := Lib.hid (Rq6_q.out.below h3 Rq6_q.out.lt)
          have Rq9_r := Lib.hid (Rq6_r.out.below h3 Rq6_r.out.lt)
          have Bq9 := Lib.hid (Below.andThen Bq6.out h3 (Nat.le_refl _))
          clear h3 Rq6_c Rq6_p Rq6_q Rq6_r Bq6 c7_c_0 c7_c_1 c7_c_2 c7_c_3 c8_r_0 c8_r_1
          go_wp2_with fail
          go_ret
          exact ⟨ret_bool HRE.out.symm, Bq9.out⟩
        | true =>
          cases T with
          | false =>
            have HRE := Lib.hid (show R = false by
              rw [HR.out, HE3.out]
              cases C0 <;> cases C1 <;> cases C2 <;> first | rfl | (exact absurd (HT3.out rfl rfl rfl) (by simp)))
            have f0 := HAA.out.1.1
            have g0 := HAA.out.1.2
            have f1 := HAA.out.2.1.1
            have g1 := HAA.out.2.1.2
            have f2 := HAA.out.2.2.1
            have g2 := HAA.out.2.2.2
            have f3 := HTT.out
            have q1_c := RCx.out
            have c1_c_0 := q1_c.cell 0
            have c1_c_1 := q1_c.cell 1
            have c1_c_2 := q1_c.cell 2
            have c1_c_3 := q1_c.cell 3
            simp only [List.getElem?_cons_zero, List.getElem?_cons_succ] at c1_c_0 c1_c_1 c1_c_2 c1_c_3
            clear q1_c
            have q2_p := RPx.out
            have c2_p_0 := q2_p.cell 0
            have c2_p_1 := q2_p.cell 1
            simp only [List.getElem?_cons_zero, List.getElem?_cons_succ] at c2_p_0 c2_p_1
            clear q2_p
            go_wp2_with fail
            refine (HW0.out _).mono ?_
            rintro e w1 ⟨rfl, h1⟩
            have Rq3_c := Lib.hid (RCx.out.below h1 RCx.out.lt)
            have Rq3_p := Lib.hid (RPx.out.below h1 RPx.out.lt)
            have Rq3_q := Lib.hid (RQx.out.below h1 RQx.out.lt)
            have Rq3_r := Lib.hid (RRx.out.below h1 RRx.out.lt)
            have Bq3 := Lib.hid (Below.andThen BWx.out h1 (Nat.le_refl _))
            clear h1 RCx RPx RQx RRx BWx c1_c_0 c1_c_1 c1_c_2 c1_c_3 c2_p_0 c2_p_1
            have q4_c := Rq3_c.out
            have c4_c_0 := q4_c.cell 0
            have c4_c_1 := q4_c.cell 1
            have c4_c_2 := q4_c.cell 2
            have c4_c_3 := q4_c.cell 3
            simp only [List.getElem?_cons_zero, List.getElem?_cons_succ] at c4_c_0 c4_c_1 c4_c_2 c4_c_3
            clear q4_c
            have q5_q := Rq3_q.out
            have c5_q_0 := q5_q.cell 0
            have c5_q_1 := q5_q.cell 1
            simp only [List.getElem?_cons_zero, List.getElem?_cons_succ] at c5_q_0 c5_q_1
            clear q5_q
            go_wp2_with fail
            refine (HW1.out _).mono ?_
            rintro e w2 ⟨rfl, h2⟩
            have Rq6_c := Lib.hid (Rq3_c.out.below h2 Rq3_c.out.lt)
            have Rq6_p := Lib.hid (Rq3_p.out.below h2 Rq3_p.out.lt)
            have Rq6_q := Lib.hid (Rq3_q.out.below h2 Rq3_q.out.lt)
            have Rq6_r := Lib.hid (Rq3_r.out.below h2 Rq3_r.out.lt)
            have Bq6 := Lib.hid (Below.andThen Bq3.out h2 (Nat.le_refl _))
            clear h2 Rq3_c Rq3_p Rq3_q Rq3_r Bq3 c4_c_0 c4_c_1 c4_c_2 c4_c_3 c5_q_0 c5_q_1
            have q7_c := Rq6_c.out
            have c7_c_0 := q7_c.cell 0
            have c7_c_1 := q7_c.cell 1
            have c7_c_2 := q7_c.cell 2
            have c7_c_3 := q7_c.cell 3
            simp only [List.getElem?_cons_zero, List.getElem?_cons_succ] at c7_c_0 c7_c_1 c7_c_2 c7_c_3
            clear q7_c
            have q8_r := Rq6_r.out
            have c8_r_0 := q8_r.cell 0
            have c8_r_1 := q8_r.cell 1
            simp only [List.getElem?_cons_zero, List.getElem?_cons_succ] at c8_r_0 c8_r_1
            clear q8_r
            go_wp2_with fail
            refine (HW2.out _).mono ?_
            rintro e w3 ⟨rfl, h3⟩
            have Rq9_c := Lib.hid (Rq6_c.out.below h3 Rq6_c.out.lt)
            have Rq9_p := Lib.hid (Rq6_p.out.below h3 Rq6_p.out.lt)
            have Rq9_q := Lib.hid (Rq6_q.out.below h3 Rq6_q.out.lt)
            have Rq9_r := Lib.hid (Rq6_r.out.below h3 Rq6_r.out.lt)
            have Bq9 := Lib.hid (Below.andThen Bq6.out h3 (Nat.le_refl _))
            clear h3 Rq6_c Rq6_p Rq6_q Rq6_r Bq6 c7_c_0 c7_c_1 c7_c_2 c7_c_3 c8_r_0 c8_r_1
            have q10_p := Rq9_p.out
            have c10_p_0 := q10_p.cell 0
            have c10_p_1 := q10_p.cell 1
            simp only [List.getElem?_cons_zero, List.getElem?_cons_succ] at c10_p_0 c10_p_1
            clear q10_p
            have q11_q := Rq9_q.out
            have c11_q_0 := q11_q.cell 0
            have c11_q_1 := q11_q.cell 1
            simp only [List.getElem?_cons_zero, List.getElem?_cons_succ] at c11_q_0 c11_q_1
            clear q11_q
            have q12_r := Rq9_r.out
            have c12_r_0 := q12_r.cell 0
            have c12_r_1 := q12_r.cell 1
            simp only [List.getElem?_cons_zero, List.getElem?_cons_succ] at c12_r_0 c12_r_1
            clear q12_r
            go_wp2_with fail
            refine (HTN.out _).mono ?_
            rintro e w4 ⟨rfl, h4⟩
            have Rq13_c := Lib.hid (Rq9_c.out.below h4 Rq9_c.out.lt)
            have Rq13_p := Lib.hid (Rq9_p.out.below h4 Rq9_p.out.lt)
            have Rq13_q := Lib.hid (Rq9_q.out.below h4 Rq9_q.out.lt)
            have Rq13_r := Lib.hid (Rq9_r.out.below h4 Rq9_r.out.lt)
            have Bq13 := Lib.hid (Below.andThen Bq9.out h4 (Nat.le_refl _))
            clear h4 Rq9_c Rq9_p Rq9_q Rq9_r Bq9 c10_p_0 c10_p_1 c11_q_0 c11_q_1 c12_r_0 c12_r_1
            go_wp2_with fail
            go_ret
            exact ⟨ret_bool HRE.out.symm, Bq13.out⟩
          | true =>
            cases C0 with
            | false =>
              have HRE := Lib.hid (show R = false by rw [HR.out, HE3.out]; simp)
              have f0 := HAA.out.1.1
              have g0 := HAA.out.1.2
              have f1 := HAA.out.2.1.1
              have g1 := HAA.out.2.1.2
              have f2 := HAA.out.2.2.1
              have g2 := HAA.out.2.2.2
              have f3 := HTT.out
              have q1_c := RCx.out
              have c1_c_0 := q1_c.cell 0
              have c1_c_1 := q1_c.cell 1
              have c1_c_2 := q1_c.cell 2
              have c1_c_3 := q1_c.cell 3
              simp only [List.getElem?_cons_zero, List.getElem?_cons_succ] at c1_c_0 c1_c_1 c1_c_2 c1_c_3
              clear q1_c
              have q2_p := RPx.out
              have c2_p_0 := q2_p.cell 0
              have c2_p_1 := q2_p.cell 1
              simp only [List.getElem?_cons_zero, List.getElem?_cons_succ] at c2_p_0 c2_p_1
              clear q2_p
              go_wp2_with fail
              refine (HW0.out _).mono ?_
              rintro e w1 ⟨rfl, h1⟩
              have Rq3_c := Lib.hid (RCx.out.below h1 RCx.out.lt)
              have Rq3_p := Lib.hid (RPx.out.below h1 RPx.out.lt)
              have Rq3_q := Lib.hid (RQx.out.below h1 RQx.out.lt)
              have Rq3_r := Lib.hid (RRx.out.below h1 RRx.out.lt)
              have Bq3 := Lib.hid (Below.andThen BWx.out h1 (Nat.le_refl _))
              clear h1 RCx RPx RQx RRx BWx c1_c_0 c1_c_1 c1_c_2 c1_c_3 c2_p_0 c2_p_1
              have q4_c := Rq3_c.out
              have c4_c_0 := q4_c.cell 0
              have c4_c_1 := q4_c.cell 1
              have c4_c_2 := q4_c.cell 2
              have c4_c_3 := q4_c.cell 3
              simp only [List.getElem?_cons_zero, List.getElem?_cons_succ] at c4_c_0 c4_c_1 c4_c_2 c4_c_3
              clear q4_c
              have q5_q := Rq3_q.out
              have c5_q_0 := q5_q.cell 0
              have c5_q_1 := q5_q.cell 1
              simp only [List.getElem?_cons_zero, List.getElem?_cons_succ] at c5_q_0 c5_q_1
              clear q5_q
              go_wp2_with fail
              refine (HW1.out _).mono ?_
              rintro e w2 ⟨rfl, h2⟩
              have Rq6_c := Lib.hid (Rq3_c.out.below h2 Rq3_c.out.lt)
              have Rq6_p := Lib.hid (Rq3_p.out.below h2 Rq3_p.out.lt)
              have Rq6_q := Lib.hid (Rq3_q.out.below h2 Rq3_q.out.lt)
              have Rq6_r := Lib.hid (Rq3_r.out.below h2 Rq3_r.out.lt)
              have Bq6 := Lib.hid (Below.andThen Bq3.out h2 (Nat.le_refl _))
              clear h2 Rq3_c Rq3_p Rq3_q Rq3_r Bq3 c4_c_0 c4_c_1 c4_c_2 c4_c_3 c5_q_0 c5_q_1
              have q7_c := Rq6_c.out
              have c7_c_0 := q7_c.cell 0
              have c7_c_1 := q7_c.cell 1
              have c7_c_2 := q7_c.cell 2
              have c7_c_3 := q7_c.cell 3
              simp only [List.getElem?_cons_zero, List.getElem?_cons_succ] at c7_c_0 c7_c_1 c7_c_2 c7_c_3
              clear q7_c
              have q8_r := Rq6_r.out
              have c8_r_0 := q8_r.cell 0
              have c8_r_1 := q8_r.cell 1
              simp only [List.getElem?_cons_zero, List.getElem?_cons_succ] at c8_r_0 c8_r_1
              clear q8_r
              go_wp2_with fail
              refine (HW2.out _).mono ?_
              rintro e w3 ⟨rfl, h3⟩
              have Rq9_c := Lib.hid (Rq6_c.out.below h3 Rq6_c.out.lt)
              have Rq9_p := Lib.hid (Rq6_p.out.below h3 Rq6_p.out.lt)
              have Rq9_q := Lib.hid (Rq6_q.out.below h3 Rq6_q.out.lt)
              have Rq9_r := Lib.hid (Rq6_r.out.below h3 Rq6_r.out.lt)
              have Bq9 := Lib.hid (Below.andThen Bq6.out h3 (Nat.le_refl _))
              clear h3 Rq6_c Rq6_p Rq6_q Rq6_r Bq6 c7_c_0 c7_c_1 c7_c_2 c7_c_3 c8_r_0 c8_r_1
              have q10_p := Rq9_p.out
              have c10_p_0 := q10_p.cell 0
              have c10_p_1 := q10_p.cell 1
              simp only [List.getElem?_cons_zero, List.getElem?_cons_succ] at c10_p_0 c10_p_1
              clear q10_p
              have q11_q := Rq9_q.out
              have c11_q_0 := q11_q.cell 0
              have c11_q_1 := q11_q.cell 1
              simp only [List.getElem?_cons_zero, List.getElem?_cons_succ] at c11_q_0 c11_q_1
              clear q11_q
              have q12_r := Rq9_r.out
              have c12_r_0 := q12_r.cell 0
              have c12_r_1 := q12_r.cell 1
              simp only [List.getElem?_cons_zero, List.getElem?_cons_succ] at c12_r_0 c12_r_1
              clear q12_r
              go_wp2_with fail
              refine (HTN.out _).mono ?_
              rintro e w4 ⟨rfl, h4⟩
              have Rq13_c := Lib.hid (Rq9_c.out.below h4 Rq9_c.out.lt)
              have Rq13_p := Lib.hid (Rq9_p.out.below h4 Rq9_p.out.lt)
              have Rq13_q := Lib.hid (Rq9_q.out.below h4 Rq9_q.out.lt)
              have Rq13_r := Lib.hid (Rq9_r.out.below h4 Rq9_r.out.lt)
              have Bq13 := Lib.hid (Below.andThen Bq9.out h4 (Nat.le_refl _))
              clear h4 Rq9_c Rq9_p Rq9_q Rq9_r Bq9 c10_p_0 c10_p_1 c11_q_0 c11_q_1 c12_r_0 c12_r_1
              have q14_p := Rq13_p.out
              have c14_p_0 := q14_p.cell 0
              have c14_p_1 := q14_p.cell 1
              simp only [List.getElem?_cons_zero, List.getElem?_cons_succ] at c14_p_0 c14_p_1
              clear q14_p
              have q15_q := Rq13_q.out
              have c15_q_0 := q15_q.cell 0
              have c15_q_1 := q15_q.cell 1
              simp only [List.getElem?_cons_zero, List.getElem?_cons_succ] at c15_q_0 c15_q_1
              clear q15_q
              have q16_r := Rq13_r.out
              have c16_r_0 := q16_r.cell 0
              have c16_r_1 := q16_r.cell 1
              simp only [List.getElem?_cons_zero, List.getElem?_cons_succ] at c16_r_0 c16_r_1
              clear q16_r
              go_wp2_with fail
              refine (HC0.out _).mono ?_
              rintro e w5 ⟨rfl, h5⟩
              have Rq17_c := Lib.hid (Rq13_c.out.below h5 Rq13_c.out.lt)
              have Rq17_p := Lib.hid (Rq13_p.out.below h5 Rq13_p.out.lt)
              have Rq17_q := Lib.hid (Rq13_q.out.below h5 Rq13_q.out.lt)
              have Rq17_r := Lib.hid (Rq13_r.out.below h5 Rq13_r.out.lt)
              have Bq17 := Lib.hid (Below.andThen Bq13.out h5 (Nat.le_refl _))
              clear h5 Rq13_c Rq13_p Rq13_q Rq13_r Bq13 c14_p_0 c14_p_1 c15_q_0 c15_q_1 c16_r_0 c16_r_1
              go_wp2_with fail
              go_ret
              exact ⟨ret_bool HRE.out.symm, Bq17.out⟩
            | true =>
              cases C1 with
              | false =>
                have HRE := Lib.hid (show R = false by rw [HR.out, HE3.out]; simp)
                have f0 := HAA.out.1.1
                have g0 := HAA.out.1.2
                have f1 := HAA.out.2.1.1
                have g1 := HAA.out.2.1.2
                have f2 := HAA.out.2.2.1
                have g2 := HAA.out.2.2.2
                have f3 := HTT.out
                have q1_c := RCx.out
                have c1_c_0 := q1_c.cell 0
                have c1_c_1 := q1_c.cell 1
                have c1_c_2 := q1_c.cell 2
                have c1_c_3 := q1_c.cell 3
                simp only [List.getElem?_cons_zero, List.getElem?_cons_succ] at c1_c_0 c1_c_1 c1_c_2 c1_c_3
                clear q1_c
                have q2_p := RPx.out
                have c2_p_0 := q2_p.cell 0
                have c2_p_1 := q2_p.cell 1
                simp only [List.getElem?_cons_zero, List.getElem?_cons_succ] at c2_p_0 c2_p_1
                clear q2_p
                go_wp2_with fail
                refine (HW0.out _).mono ?_
                rintro e w1 ⟨rfl, h1⟩
                have Rq3_c := Lib.hid (RCx.out.below h1 RCx.out.lt)
                have Rq3_p := Lib.hid (RPx.out.below h1 RPx.out.lt)
                have Rq3_q := Lib.hid (RQx.out.below h1 RQx.out.lt)
                have Rq3_r := Lib.hid (RRx.out.below h1 RRx.out.lt)
                have Bq3 := Lib.hid (Below.andThen BWx.out h1 (Nat.le_refl _))
                clear h1 RCx RPx RQx RRx BWx c1_c_0 c1_c_1 c1_c_2 c1_c_3 c2_p_0 c2_p_1
                have q4_c := Rq3_c.out
                have c4_c_0 := q4_c.cell 0
                have c4_c_1 := q4_c.cell 1
                have c4_c_2 := q4_c.cell 2
                have c4_c_3 := q4_c.cell 3
                simp only [List.getElem?_cons_zero, List.getElem?_cons_succ] at c4_c_0 c4_c_1 c4_c_2 c4_c_3
                clear q4_c
                have q5_q := Rq3_q.out
                have c5_q_0 := q5_q.cell 0
                have c5_q_1 := q5_q.cell 1
                simp only [List.getElem?_cons_zero, List.getElem?_cons_succ] at c5_q_0 c5_q_1
                clear q5_q
                go_wp2_with fail
                refine (HW1.out _).mono ?_
                rintro e w2 ⟨rfl, h2⟩
                have Rq6_c := Lib.hid (Rq3_c.out.below h2 Rq3_c.out.lt)
                have Rq6_p := Lib.hid (Rq3_p.out.below h2 Rq3_p.out.lt)
                have Rq6_q := Lib.hid (Rq3_q.out.below h2 Rq3_q.out.lt)
                have Rq6_r := Lib.hid (Rq3_r.out.below h2 Rq3_r.out.lt)
                have Bq6 := Lib.hid (Below.andThen Bq3.out h2 (Nat.le_refl _))
                clear h2 Rq3_c Rq3_p Rq3_q Rq3_r Bq3 c4_c_0 c4_c_1 c4_c_2 c4_c_3 c5_q_0 c5_q_1
                have q7_c := Rq6_c.out
                have c7_c_0 := q7_c.cell 0
                have c7_c_1 := q7_c.cell 1
                have c7_c_2 := q7_c.cell 2
                have c7_c_3 := q7_c.cell 3
                simp only [List.getElem?_cons_zero, List.getElem?_cons_succ] at c7_c_0 c7_c_1 c7_c_2 c7_c_3
                clear q7_c
                have q8_r := Rq6_r.out
                have c8_r_0 := q8_r.cell 0
                have c8_r_1 := q8_r.cell 1
                simp only [List.getElem?_cons_zero, List.getElem?_cons_succ] at c8_r_0 c8_r_1
                clear q8_r
                go_wp2_with fail
                refine (HW2.out _).mono ?_
                rintro e w3 ⟨rfl, h3⟩
                have Rq9_c := Lib.hid (Rq6_c.out.below h3 Rq6_c.out.lt)
                have Rq9_p := Lib.hid (Rq6_p.out.below h3 Rq6_p.out.lt)
                have Rq9_q := Lib.hid (Rq6_q.out.below h3 Rq6_q.out.lt)
                have Rq9_r := Lib.hid (Rq6_r.out.below h3 Rq6_r.out.lt)
                have Bq9 := Lib.hid (Below.andThen Bq6.out h3 (Nat.le_refl _))
                clear h3 Rq6_c Rq6_p Rq6_q Rq6_r Bq6 c7_c_0 c7_c_1 c7_c_2 c7_c_3 c8_r_0 c8_r_1
                have q10_p := Rq9_p.out
                have c10_p_0 := q10_p.cell 0
                have c10_p_1 := q10_p.cell 1
                simp only [List.getElem?_cons_zero, List.getElem?_cons_succ] at c10_p_0 c10_p_1
                clear q10_p
                have q11_q := Rq9_q.out
                have c11_q_0 := q11_q.cell 0
                have c11_q_1 := q11_q.cell 1
                simp only [List.getElem?_cons_zero, List.getElem?_cons_succ] at c11_q_0 c11_q_1
                clear q11_q
                have q12_r := Rq9_r.out
                have c12_r_0 := q12_r.cell 0
                have c12_r_1 := q12_r.cell 1
                simp only [List.getElem?_cons_zero, List.getElem?_cons_succ] at c12_r_0 c12_r_1
                clear q12_r
                go_wp2_with fail
                refine (HTN.out _).mono ?_
                rintro e w4 ⟨rfl, h4⟩
                have Rq13_c := Lib.hid (Rq9_c.out.below h4 Rq9_c.out.lt)
                have Rq13_p := Lib.hid (Rq9_p.out.below h4 Rq9_p.out.lt)
                have Rq13_q := Lib.hid (Rq9_q.out.below h4 Rq9_q.out.lt)
                have Rq13_r := Lib.hid (Rq9_r.out.below h4 Rq9_r.out.lt)
                have Bq13 := Lib.hid (Below.andThen Bq9.out h4 (Nat.le_refl _))
                clear h4 Rq9_c Rq9_p Rq9_q Rq9_r Bq9 c10_p_0 c10_p_1 c11_q_0 c11_q_1 c12_r_0 c12_r_1
                have q14_p := Rq13_p.out
                have c14_p_0 := q14_p.cell 0
                have c14_p_1 := q14_p.cell 1
                simp only [List.getElem?_cons_zero, List.getElem?_cons_succ] at c14_p_0 c14_p_1
                clear q14_p
                have q15_q := Rq13_q.out
                have c15_q_0 := q15_q.cell 0
                have c15_q_1 := q15_q.cell 1
                simp only [List.getElem?_cons_zero, List.getElem?_cons_succ] at c15_q_0 c15_q_1
                clear q15_q
                have q16_r := Rq13_r.out
                have c16_r_0 := q16_r.cell 0
                have c16_r_1 := q16_r.cell 1
                simp only [List.getElem?_cons_zero, List.getElem?_cons_succ] at c16_r_0 c16_r_1
                clear q16_r
                go_wp2_with fail
                refine (HC0.out _).mono ?_
                rintro e w5 ⟨rfl, h5⟩
                have Rq17_c := Lib.hid (Rq13_c.out.below h5 Rq13_c.out.lt)
                have Rq17_p := Lib.hid (Rq13_p.out.below h5 Rq13_p.out.lt)
                have Rq17_q := Lib.hid (Rq13_q.out.below h5 Rq13_q.out.lt)
                have Rq17_r := Lib.hid (Rq13_r.out.below h5 Rq13_r.out.lt)
                have Bq17 := Lib.hid (Below.andThen Bq13.out h5 (Nat.le_refl _))
                clear h5 Rq13_c Rq13_p Rq13_q Rq13_r Bq13 c14_p_0 c14_p_1 c15_q_0 c15_q_1 c16_r_0 c16_r_1
                have q18_q := Rq17_q.out
                have c18_q_0 := q18_q.cell 0
                have c18_q_1 := q18_q.cell 1
                simp only [List.getElem?_cons_zero, List.getElem?_cons_succ] at c18_q_0 c18_q_1
                clear q18_q
                have q19_r := Rq17_r.out
                have c19_r_0 := q19_r.cell 0
                have c19_r_1 := q19_r.cell 1
                simp only [List.getElem?_cons_zero, List.getElem?_cons_succ] at c19_r_0 c19_r_1
                clear q19_r
                have q20_p := Rq17_p.out
                have c20_p_0 := q20_p.cell 0
                have c20_p_1 := q20_p.cell 1
                simp only [List.getElem?_cons_zero, List.getElem?_cons_succ] at c20_p_0 c20_p_1
                clear q20_p
                go_wp2_with fail
                refine (HC1.out _).mono ?_
                rintro e w6 ⟨rfl, h6⟩
                have Rq21_c := Lib.hid (Rq17_c.out.below h6 Rq17_c.out.lt)
                have Rq21_p := Lib.hid (Rq17_p.out.below h6 Rq17_p.out.lt)
                have Rq21_q := Lib.hid (Rq17_q.out.below h6 Rq17_q.out.lt)
                have Rq21_r := Lib.hid (Rq17_r.out.below h6 Rq17_r.out.lt)
                have Bq21 := Lib.hid (Below.andThen Bq17.out h6 (Nat.le_refl _))
                clear h6 Rq17_c Rq17_p Rq17_q Rq17_r Bq17 c18_q_0 c18_q_1 c19_r_0 c19_r_1 c20_p_0 c20_p_1
                go_wp2_with fail
                go_ret
                exact ⟨ret_bool HRE.out.symm, Bq21.out⟩
              | true =>
                cases C2 with
                | false =>
                  have HRE := Lib.hid (show R = false by rw [HR.out, HE3.out]; simp)
                  have f0 := HAA.out.1.1
                  have g0 := HAA.out.1.2
                  have f1 := HAA.out.2.1.1
                  have g1 := HAA.out.2.1.2
                  have f2 := HAA.out.2.2.1
                  have g2 := HAA.out.2.2.2
                  have f3 := HTT.out
                  have q1_c := RCx.out
                  have c1_c_0 := q1_c.cell 0
                  have c1_c_1 := q1_c.cell 1
                  have c1_c_2 := q1_c.cell 2
                  have c1_c_3 := q1_c.cell 3
                  simp only [List.getElem?_cons_zero, List.getElem?_cons_succ] at c1_c_0 c1_c_1 c1_c_2 c1_c_3
                  clear q1_c
                  have q2_p := RPx.out
                  have c2_p_0 := q2_p.cell 0
                  have c2_p_1 := q2_p.cell 1
                  simp only [List.getElem?_cons_zero, List.getElem?_cons_succ] at c2_p_0 c2_p_1
                  clear q2_p
                  go_wp2_with fail
                  refine (HW0.out _).mono ?_
                  rintro e w1 ⟨rfl, h1⟩
                  have Rq3_c := Lib.hid (RCx.out.below h1 RCx.out.lt)
                  have Rq3_p := Lib.hid (RPx.out.below h1 RPx.out.lt)
                  have Rq3_q := Lib.hid (RQx.out.below h1 RQx.out.lt)
                  have Rq3_r := Lib.hid (RRx.out.below h1 RRx.out.lt)
                  have Bq3 := Lib.hid (Below.andThen BWx.out h1 (Nat.le_refl _))
                  clear h1 RCx RPx RQx RRx BWx c1_c_0 c1_c_1 c1_c_2 c1_c_3 c2_p_0 c2_p_1
                  have q4_c := Rq3_c.out
                  have c4_c_0 := q4_c.cell 0
                  have c4_c_1 := q4_c.cell 1
                  have c4_c_2 := q4_c.cell 2
                  have c4_c_3 := q4_c.cell 3
                  simp only [List.getElem?_cons_zero, List.getElem?_cons_succ] at c4_c_0 c4_c_1 c4_c_2 c4_c_3
                  clear q4_c
                  have q5_q := Rq3_q.out
                  have c5_q_0 := q5_q.cell 0
                  have c5_q_1 := q5_q.cell 1
                  simp only [List.getElem?_cons_zero, List.getElem?_cons_succ] at c5_q_0 c5_q_1
                  clear q5_q
                  go_wp2_with fail
                  refine (HW1.out _).mono ?_
                  rintro e w2 ⟨rfl, h2⟩
                  have Rq6_c := Lib.hid (Rq3_c.out.below h2 Rq3_c.out.lt)
                  have Rq6_p := Lib.hid (Rq3_p.out.below h2 Rq3_p.out.lt)
                  have Rq6_q := Lib.hid (Rq3_q.out.below h2 Rq3_q.out.lt)
                  have Rq6_r := Lib.hid (Rq3_r.out.below h2 Rq3_r.out.lt)
                  have Bq6 := Lib.hid (Below.andThen Bq3.out h2 (Nat.le_refl _))
                  clear h2 Rq3_c Rq3_p Rq3_q Rq3_r Bq3 c4_c_0 c4_c_1 c4_c_2 c4_c_3 c5_q_0 c5_q_1
                  have q7_c := Rq6_c.out
                  have c7_c_0 := q7_c.cell 0
                  have c7_c_1 := q7_c.cell 1
                  have c7_c_2 := q7_c.cell 2
                  have c7_c_3 := q7_c.cell 3
                  simp only [List.getElem?_cons_zero, List.getElem?_cons_succ] at c7_c_0 c7_c_1 c7_c_2 c7_c_3
                  clear q7_c
                  have q8_r := Rq6_r.out
                  have c8_r_0 := q8_r.cell 0
                  have c8_r_1 := q8_r.cell 1
                  simp only [List.getElem?_cons_zero, List.getElem?_cons_succ] at c8_r_0 c8_r_1
                  clear q8_r
                  go_wp2_with fail
                  refine (HW2.out _).mono ?_
                  rintro e w3 ⟨rfl, h3⟩
                  have Rq9_c := Lib.hid (Rq6_c.out.below h3 Rq6_c.out.lt)
                  have Rq9_p := Lib.hid (Rq6_p.out.below h3 Rq6_p.out.lt)
                  have Rq9_q := Lib.hid (Rq6_q.out.below h3 Rq6_q.out.lt)
                  have Rq9_r := Lib.hid (Rq6_r.out.below h3 Rq6_r.out.lt)
                  have Bq9 := Lib.hid (Below.andThen Bq6.out h3 (Nat.le_refl _))
                  clear h3 Rq6_c Rq6_p Rq6_q Rq6_r Bq6 c7_c_0 c7_c_1 c7_c_2 c7_c_3 c8_r_0 c8_r_1
                  have q10_p := Rq9_p.out
                  have c10_p_0 := q10_p.cell 0
                  have c10_p_1 := q10_p.cell 1
                  simp only [List.getElem?_cons_zero, List.getElem?_cons_succ] at c10_p_0 c10_p_1
                  clear q10_p
                  have q11_q := Rq9_q.out
                  have c11_q_0 := q11_q.cell 0
                  have c11_q_1 := q11_q.cell 1
                  simp only [List.getElem?_cons_zero, List.getElem?_cons_succ] at c11_q_0 c11_q_1
                  clear q11_q
                  have q12_r := Rq9_r.out
                  have c12_r_0 := q12_r.cell 0
                  have c12_r_1 := q12_r.cell 1
                  simp only [List.getElem?_cons_zero, List.getElem?_cons_succ] at c12_r_0 c12_r_1
                  clear q12_r
                  go_wp2_with fail
                  refine (HTN.out _).mono ?_
                  rintro e w4 ⟨rfl, h4⟩
                  have Rq13_c := Lib.hid (Rq9_c.out.below h4 Rq9_c.out.lt)
                  have Rq13_p := Lib.hid (Rq9_p.out.below h4 Rq9_p.out.lt)
                  have Rq13_q := Lib.hid (Rq9_q.out.below h4 Rq9_q.out.lt)
                  have Rq13_r := Lib.hid (Rq9_r.out.below h4 Rq9_r.out.lt)
                  have Bq13 := Lib.hid (Below.andThen Bq9.out h4 (Nat.le_refl _))
                  clear h4 Rq9_c Rq9_p Rq9_q Rq9_r Bq9 c10_p_0 c10_p_1 c11_q_0 c11_q_1 c12_r_0 c12_r_1
                  have q14_p := Rq13_p.out
                  have c14_p_0 := q14_p.cell 0
                  have c14_p_1 := q14_p.cell 1
                  simp only [List.getElem?_cons_zero, List.getElem?_cons_succ] at c14_p_0 c14_p_1
                  clear q14_p
                  have q15_q := Rq13_q.out
                  have c15_q_0 := q15_q.cell 0
                  have c15_q_1 := q15_q.cell 1
                  simp only [List.getElem?_cons_zero, List.getElem?_cons_succ] at c15_q_0 c15_q_1
                  clear q15_q
                  have q16_r := Rq13_r.out
                  have c16_r_0 := q16_r.cell 0
                  have c16_r_1 := q16_r.cell 1
                  simp only [List.getElem?_cons_zero, List.getElem?_cons_succ] at c16_r_0 c16_r_1
                  clear q16_r
                  go_wp2_with fail
                  refine (HC0.out _).mono ?_
                  rintro e w5 ⟨rfl, h5⟩
                  have Rq17_c := Lib.hid (Rq13_c.out.below h5 Rq13_c.out.lt)
                  have Rq17_p := Lib.hid (Rq13_p.out.below h5 Rq13_p.out.lt)
                  have Rq17_q := Lib.hid (Rq13_q.out.below h5 Rq13_q.out.lt)
                  have Rq17_r := Lib.hid (Rq13_r.out.below h5 Rq13_r.out.lt)
                  have Bq17 := Lib.hid (Below.andThen Bq13.out h5 (Nat.le_refl _))
                  clear h5 Rq13_c Rq13_p Rq13_q Rq13_r Bq13 c14_p_0 c14_p_1 c15_q_0 c15_q_1 c16_r_0 c16_r_1
                  have q18_q := Rq17_q.out
                  have c18_q_0 := q18_q.cell 0
                  have c18_q_1 := q18_q.cell 1
                  simp only [List.getElem?_cons_zero, List.getElem?_cons_succ] at c18_q_0 c18_q_1
                  clear q18_q
                  have q19_r := Rq17_r.out
                  have c19_r_0 := q19_r.cell 0
                  have c19_r_1 := q19_r.cell 1
                  simp only [List.getElem?_cons_zero, List.getElem?_cons_succ] at c19_r_0 c19_r_1
                  clear q19_r
                  have q20_p := Rq17_p.out
                  have c20_p_0 := q20_p.cell 0
                  have c20_p_1 := q20_p.cell 1
                  simp only [List.getElem?_cons_zero, List.getElem?_cons_succ] at c20_p_0 c20_p_1
                  clear q20_p
                  go_wp2_with fail
                  refine (HC1.out _).mono ?_
                  rintro e w6 ⟨rfl, h6⟩
                  have Rq21_c := Lib.hid (Rq17_c.out.below h6 Rq17_c.out.lt)
                  have Rq21_p := Lib.hid (Rq17_p.out.below h6 Rq17_p.out.lt)
                  have Rq21_q := Lib.hid (Rq17_q.out.below h6 Rq17_q.out.lt)
                  have Rq21_r := Lib.hid (Rq17_r.out.below h6 Rq17_r.out.lt)
                  have Bq21 := Lib.hid (Below.andThen Bq17.out h6 (Nat.le_refl _))
                  clear h6 Rq17_c Rq17_p Rq17_q Rq17_r Bq17 c18_q_0 c18_q_1 c19_r_0 c19_r_1 c20_p_0 c20_p_1
                  have q22_r := Rq21_r.out
                  have c22_r_0 := q22_r.cell 0
                  have c22_r_1 := q22_r.cell 1
                  simp only [List.getElem?_cons_zero, List.getElem?_cons_succ] at c22_r_0 c22_r_1
                  clear q22_r
                  have q23_p := Rq21_p.out
                  have c23_p_0 := q23_p.cell 0
                  have c23_p_1 := q23_p.cell 1
                  simp only [List.getElem?_cons_zero, List.getElem?_cons_succ] at c23_p_0 c23_p_1
                  clear q23_p
                  have q24_q := Rq21_q.out
                  have c24_q_0 := q24_q.cell 0
                  have c24_q_1 := q24_q.cell 1
                  simp only [List.getElem?_cons_zero, List.getElem?_cons_succ] at c24_q_0 c24_q_1
                  clear q24_q
                  go_wp2_with fail
                  refine (HC2.out _).mono ?_
                  rintro e w7 ⟨rfl, h7⟩
                  have Rq25_c := Lib.hid (Rq21_c.out.below h7 Rq21_c.out.lt)
                  have Rq25_p := Lib.hid (Rq21_p.out.below h7 Rq21_p.out.lt)
                  have Rq25_q := Lib.hid (Rq21_q.out.below h7 Rq21_q.out.lt)
                  have Rq25_r := Lib.hid (Rq21_r.out.below h7 Rq21_r.out.lt)
                  have Bq25 := Lib.hid (Below.andThen Bq21.out h7 (Nat.le_refl _))
                  clear h7 Rq21_c Rq21_p Rq21_q Rq21_r Bq21 c22_r_0 c22_r_1 c23_p_0 c23_p_1 c24_q_0 c24_q_1
                  go_wp2_with fail
                  go_ret
                  exact ⟨ret_bool HRE.out.symm, Bq25.out⟩
                | true =>
                  have HRE := Lib.hid (show R = true by rw [HR.out, HE3.out]; rfl)
                  have f0 := HAA.out.1.1
                  have g0 := HAA.out.1.2
                  have f1 := HAA.out.2.1.1
                  have g1 := HAA.out.2.1.2
                  have f2 := HAA.out.2.2.1
                  have g2 := HAA.out.2.2.2
                  have f3 := HTT.out
                  have q1_c := RCx.out
                  have c1_c_0 := q1_c.cell 0
                  have c1_c_1 := q1_c.cell 1
                  have c1_c_2 := q1_c.cell 2
                  have c1_c_3 := q1_c.cell 3
                  simp only [List.getElem?_cons_zero, List.getElem?_cons_succ] at c1_c_0 c1_c_1 c1_c_2 c1_c_3
                  clear q1_c
                  have q2_p := RPx.out
                  have c2_p_0 := q2_p.cell 0
                  have c2_p_1 := q2_p.cell 1
                  simp only [List.getElem?_cons_zero, List.getElem?_cons_succ] at c2_p_0 c2_p_1
                  clear q2_p
                  go_wp2_with fail
                  refine (HW0.out _).mono ?_
                  rintro e w1 ⟨rfl, h1⟩
                  have Rq3_c := Lib.hid (RCx.out.below h1 RCx.out.lt)
                  have Rq3_p := Lib.hid (RPx.out.below h1 RPx.out.lt)
                  have Rq3_q := Lib.hid (RQx.out.below h1 RQx.out.lt)
                  have Rq3_r := Lib.hid (RRx.out.below h1 RRx.out.lt)
                  have Bq3 := Lib.hid (Below.andThen BWx.out h1 (Nat.le_refl _))
                  clear h1 RCx RPx RQx RRx BWx c1_c_0 c1_c_1 c1_c_2 c1_c_3 c2_p_0 c2_p_1
                  have q4_c := Rq3_c.out
                  have c4_c_0 := q4_c.cell 0
                  have c4_c_1 := q4_c.cell 1
                  have c4_c_2 := q4_c.cell 2
                  have c4_c_3 := q4_c.cell 3
                  simp only [List.getElem?_cons_zero, List.getElem?_cons_succ] at c4_c_0 c4_c_1 c4_c_2 c4_c_3
                  clear q4_c
                  have q5_q := Rq3_q.out
                  have c5_q_0 := q5_q.cell 0
                  have c5_q_1 := q5_q.cell 1
                  simp only [List.getElem?_cons_zero, List.getElem?_cons_succ] at c5_q_0 c5_q_1
                  clear q5_q
                  go_wp2_with fail
                  refine (HW1.out _).mono ?_
                  rintro e w2 ⟨rfl, h2⟩
                  have Rq6_c := Lib.hid (Rq3_c.out.below h2 Rq3_c.out.lt)
                  have Rq6_p := Lib.hid (Rq3_p.out.below h2 Rq3_p.out.lt)
                  have Rq6_q := Lib.hid (Rq3_q.out.below h2 Rq3_q.out.lt)
                  have Rq6_r := Lib.hid (Rq3_r.out.below h2 Rq3_r.out.lt)
                  have Bq6 := Lib.hid (Below.andThen Bq3.out h2 (Nat.le_refl _))
                  clear h2 Rq3_c Rq3_p Rq3_q Rq3_r Bq3 c4_c_0 c4_c_1 c4_c_2 c4_c_3 c5_q_0 c5_q_1
                  have q7_c := Rq6_c.out
                  have c7_c_0 := q7_c.cell 0
                  have c7_c_1 := q7_c.cell 1
                  have c7_c_2 := q7_c.cell 2
                  have c7_c_3 := q7_c.cell 3
                  simp only [List.getElem?_cons_zero, List.getElem?_cons_succ] at c7_c_0 c7_c_1 c7_c_2 c7_c_3
                  clear q7_c
                  have q8_r := Rq6_r.out
                  have c8_r_0 := q8_r.cell 0
                  have c8_r_1 := q8_r.cell 1
                  simp only [List.getElem?_cons_zero, List.getElem?_cons_succ] at c8_r_0 c8_r_1
                  clear q8_r
                  go_wp2_with fail
                  refine (HW2.out _).mono ?_
                  rintro e w3 ⟨rfl, h3⟩
                  have Rq9_c := Lib.hid (Rq6_c.out.below h3 Rq6_c.out.lt)
                  have Rq9_p := Lib.hid (Rq6_p.out.below h3 Rq6_p.out.lt)
                  have Rq9_q := Lib.hid (Rq6_q.out.below h3 Rq6_q.out.lt)
                  have Rq9_r := Lib.hid (Rq6_r.out.below h3 Rq6_r.out.lt)
                  have Bq9 := Lib.hid (Below.andThen Bq6.out h3 (Nat.le_refl _))
                  clear h3 Rq6_c Rq6_p Rq6_q Rq6_r Bq6 c7_c_0 c7_c_1 c7_c_2 c7_c_3 c8_r_0 c8_r_1
                  have q10_p := Rq9_p.out
                  have c10_p_0 := q10_p.cell 0
                  have c10_p_1 := q10_p.cell 1
                  simp only [List.getElem?_cons_zero, List.getElem?_cons_succ] at c10_p_0 c10_p_1
                  clear q10_p
                  have q11_q := Rq9_q.out
                  have c11_q_0 := q11_q.cell 0
                  have c11_q_1 := q11_q.cell 1
                  simp only [List.getElem?_cons_zero, List.getElem?_cons_succ] at c11_q_0 c11_q_1
                  clear q11_q
                  have q12_r := Rq9_r.out
                  have c12_r_0 := q12_r.cell 0
                  have c12_r_1 := q12_r.cell 1
                  simp only [List.getElem?_cons_zero, List.getElem?_cons_succ] at c12_r_0 c12_r_1
                  clear q12_r
                  go_wp2_with fail
                  refine (HTN.out _).mono ?_
                  rintro e w4 ⟨rfl, h4⟩
                  have Rq13_c := Lib.hid (Rq9_c.out.below h4 Rq9_c.out.lt)
                  have Rq13_p := Lib.hid (Rq9_p.out.below h4 Rq9_p.out.lt)
                  have Rq13_q := Lib.hid (Rq9_q.out.below h4 Rq9_q.out.lt)
                  have Rq13_r := Lib.hid (Rq9_r.out.below h4 Rq9_r.out.lt)
                  have Bq13 := Lib.hid (Below.andThen Bq9.out h4 (Nat.le_refl _))
                  clear h4 Rq9_c Rq9_p Rq9_q Rq9_r Bq9 c10_p_0 c10_p_1 c11_q_0 c11_q_1 c12_r_0 c12_r_1
                  have q14_p := Rq13_p.out
                  have c14_p_0 := q14_p.cell 0
                  have c14_p_1 := q14_p.cell 1
                  simp only [List.getElem?_cons_zero, List.getElem?_cons_succ] at c14_p_0 c14_p_1
                  clear q14_p
                  have q15_q := Rq13_q.out
                  have c15_q_0 := q15_q.cell 0
                  have c15_q_1 := q15_q.cell 1
                  simp only [List.getElem?_cons_zero, List.getElem?_cons_succ] at c15_q_0 c15_q_1
                  clear q15_q
                  have q16_r := Rq13_r.out
                  have c16_r_0 := q16_r.cell 0
                  have c16_r_1 := q16_r.cell 1
                  simp only [List.getElem?_cons_zero, List.getElem?_cons_succ] at c16_r_0 c16_r_1
                  clear q16_r
                  go_wp2_with fail
                  refine (HC0.out _).mono ?_
                  rintro e w5 ⟨rfl, h5⟩
                  have Rq17_c := Lib.hid (Rq13_c.out.below h5 Rq13_c.out.lt)
                  have Rq17_p := Lib.hid (Rq13_p.out.below h5 Rq13_p.out.lt)
                  have Rq17_q := Lib.hid (Rq13_q.out.below h5 Rq13_q.out.lt)
                  have Rq17_r := Lib.hid (Rq13_r.out.below h5 Rq13_r.out.lt)
                  have Bq17 := Lib.hid (Below.andThen Bq13.out h5 (Nat.le_refl _))
                  clear h5 Rq13_c Rq13_p Rq13_q Rq13_r Bq13 c14_p_0 c14_p_1 c15_q_0 c15_q_1 c16_r_0 c16_r_1
                  have q18_q := Rq17_q.out
                  have c18_q_0 := q18_q.cell 0
                  have c18_q_1 := q18_q.cell 1
                  simp only [List.getElem?_cons_zero, List.getElem?_cons_succ] at c18_q_0 c18_q_1
                  clear q18_q
                  have q19_r := Rq17_r.out
                  have c19_r_0 := q19_r.cell 0
                  have c19_r_1 := q19_r.cell 1
                  simp only [List.getElem?_cons_zero, List.getElem?_cons_succ] at c19_r_0 c19_r_1
                  clear q19_r
                  have q20_p := Rq17_p.out
                  have c20_p_0 := q20_p.cell 0
                  have c20_p_1 := q20_p.cell 1
                  simp only [List.getElem?_cons_zero, List.getElem?_cons_succ] at c20_p_0 c20_p_1
                  clear q20_p
                  go_wp2_with fail
                  refine (HC1.out _).mono ?_
                  rintro e w6 ⟨rfl, h6⟩
                  have Rq21_c := Lib.hid (Rq17_c.out.below h6 Rq17_c.out.lt)
                  have Rq21_p := Lib.hid (Rq17_p.out.below h6 Rq17_p.out.lt)
                  have Rq21_q := Lib.hid (Rq17_q.out.below h6 Rq17_q.out.lt)
                  have Rq21_r := Lib.hid (Rq17_r.out.below h6 Rq17_r.out.lt)
                  have Bq21 := Lib.hid (Below.andThen Bq17.out h6 (Nat.le_refl _))
                  clear h6 Rq17_c Rq17_p Rq17_q Rq17_r Bq17 c18_q_0 c18_q_1 c19_r_0 c19_r_1 c20_p_0 c20_p_1
                  have q22_r := Rq21_r.out
                  have c22_r_0 := q22_r.cell 0
                  have c22_r_1 := q22_r.cell 1
                  simp only [List.getElem?_cons_zero, List.getElem?_cons_succ] at c22_r_0 c22_r_1
                  clear q22_r
                  have q23_p := Rq21_p.out
                  have c23_p_0 := q23_p.cell 0
                  have c23_p_1 := q23_p.cell 1
                  simp only [List.getElem?_cons_zero, List.getElem?_cons_succ] at c23_p_0 c23_p_1
                  clear q23_p
                  have q24_q := Rq21_q.out
                  have c24_q_0 := q24_q.cell 0
                  have c24_q_1 := q24_q.cell 1
                  simp only [List.getElem?_cons_zero, List.getElem?_cons_succ] at c24_q_0 c24_q_1
                  clear q24_q
                  go_wp2_with fail
                  refine (HC2.out _).mono ?_
                  rintro e w7 ⟨rfl, h7⟩
                  have Rq25_c := Lib.hid (Rq21_c.out.below h7 Rq21_c.out.lt)
                  have Rq25_p := Lib.hid (Rq21_p.out.below h7 Rq21_p.out.lt)
                  have Rq25_q := Lib.hid (Rq21_q.out.below h7 Rq21_q.out.lt)
                  have Rq25_r := Lib.hid (Rq21_r.out.below h7 Rq21_r.out.lt)
                  have Bq25 := Lib.hid (Below.andThen Bq21.out h7 (Nat.le_refl _))
                  clear h7 Rq21_c Rq21_p Rq21_q Rq21_r Bq21 c22_r_0 c22_r_1 c23_p_0 c23_p_1 c24_q_0 c24_q_1
                  go_wp2_with fail
                  go_ret
                  exact ⟨ret_bool HRE.out.symm, Bq25.out⟩
theorem rIsForce_any (ps : List Pt) (v vf : Value) (zs : List Int) (w : World) (hv : SlP w v ps) (he : chkP ps = true) (hf : SlI w vf zs) (hzl : zs.length ≤ 1000) :
    Calls Try.prog 43 #[v, vf] w fun e w' => e = .returned (.bool (riF ps zs)) ∧ Below w.heap.size w w' := by
  cases hix : idxOk ps.length zs with
  | false => exact rIsForce_bad ps v vf zs w hv he hf hzl hix
  | true =>
    match zs, hf, hzl, hix with
    | [], hf, hzl, hix => exact rIsForce_0 ps v vf w hv he hf hzl hix
    | [x], hf, hzl, hix => exact rIsForce_1 ps v vf x w hv he hf hzl hix
    | x :: y :: z :: u :: f, hf, hzl, hix => exact rIsForce_2 ps v vf x y z u f w hv he hf hzl hix
    | [x, y], hf, hzl, hix => exact rIsForce_3 ps v vf x y w hv he hf hzl hix
    | [x, y, z], hf, hzl, hix => exact rIsForce_4 ps v vf x y z w hv he hf hzl hix
end Go.Proofs.Ytlemipnplgbckaa
