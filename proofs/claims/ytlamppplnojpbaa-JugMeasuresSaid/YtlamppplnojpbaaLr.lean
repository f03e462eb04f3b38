import Derived.Test.YtlamppplnojpbaaLi
import Derived.Laws.AppendOwn
import Derived.ChangeKeysEq
import Derived.Maps.RangeWalk
import Derived.Maps.OwnIn
import Derived.Maps.AppendAt
import Derived.RangeFuncNested
import Derived.RangeFuncBound
import Derived.RangeFuncCalls
import Derived.RangeFuncLeaves
import Derived.Shelf.Abstract
import Derived.Shelf.RegionOpen
import Derived.WalkKit
import Derived.WalkMore
import Derived.OwnWalkIn
import Derived.TacticsInMore
import Derived.LoopNIn
import Derived.LoopIn
import Derived.WalkSpells
import Derived.WalkLawsBesides
import Derived.BigQuiet
import Derived.Deep.QuietTactic
import Derived.Lib.Hide
import Derived.Deep.RegionHeld3
import Derived.StillTailTactics
import Derived.Deep.LoopGhost
import Derived.Maps.OwnSet
import Derived.Lib.IndexAny
import Derived.Sort.QuietThIn
import Derived.Sort.QuietTacIn
import Derived.Sort.BigQuietIn
import Derived.Laws.OwnMore
namespace Go.Proofs.Ytlamppplnojpbaa
open Go.RowKit Go.Shelf
attribute [local go_sem] Oper.semAt_some
theorem tree_frm {P : List Int} {ss : List (Int × Int)} {S : List Int} : ∀ {A : Sn}, TreeA P ss S A → ∀ p ∈ A, p.2.frm.length = 4
  | [], _, _, h => by cases h
  | p :: r, ht, q, h => by
    obtain ⟨h1, _, _, h4, _⟩ := ht
    rcases List.mem_cons.1 h with rfl | h
    · exact h4
    · exact tree_frm h1 q h
set_option maxRecDepth 100000 in
set_option maxHeartbeats 2000000 in
theorem Reached_ok (zs fs : List Int) (v u : Value) (cl : Bool) (w : World) (hv : SlI w v zs) (hu : SlI w u fs) (hj : jugsB zs = true) (hf : fitsB zs fs = true) (res : Sn × Option (List Int)) (hres : srch (padF zs) glN (ssF cl zs.length) 28562 (padF fs) = some res) :
    Calls Try.prog 28 #[v, u, .bool cl] w fun e w' => e = .returned (.tuple #[.int .i64 (res.1.length : Int), .int .i64 0]) ∧ Below w.heap.size w w' := by
  obtain ⟨hfit, hfl, hf4⟩ := fits_pad hj hf
  have HC := Lib.hid (check1 hv (by have := jugsB_len hj; omega) hu)
  rw [errA_fits hj hf] at HC
  have HR := Lib.hid (fun (W : World) (hb : Below w.heap.size w W) => reached_any zs fs v u cl W (hv.grow hb) (hu.grow hb) hf4 hj hfit res hres)
  obtain ⟨a1, c1, e1⟩ : ∃ a1 c1, u = .slice a1 fs.length c1 := by obtain ⟨a, c, h, _⟩ := hu; exact ⟨a, c, h⟩
  clear hv hu hj hf hres hfit hfl hf4
  generalize fs.length = k1 at *
  subst e1
  go_enter Try.func28, Try.ntmps28
  go_wp2_with fail
  refine HC.out.mono ?_
  rintro e w1 ⟨rfl, hb⟩
  have HB := Lib.hid hb
  clear hb HC
  go_wp2_with fail
  refine (HR.out w1 HB.out).mono ?_
  rintro e w2 ⟨x, rfl, ⟨b, rfl, hsn⟩, hb⟩
  have HB2 := Lib.hid (Below.andThen HB.out hb (Nat.le_refl _))
  have HSN := Lib.hid hsn
  clear hb hsn HR HB
  go_wp2_with (refine wpList_len_seen rfl _ 74 rfl Try.underlying74 b _ _ rfl HSN.out ?_)
  go_ret2
  exact ⟨rfl, HB2.out⟩
set_option maxRecDepth 100000 in
set_option maxHeartbeats 2000000 in
theorem leads_any (zs fs gs : List Int) (v u1 u2 : Value) (w : World) (hv : SlI w v zs) (h1 : SlI w u1 fs) (h2 : SlI w u2 gs) (hj : jugsB zs = true) (hf : fitsB zs fs = true) (hg : fitsB zs gs = true) (res : Sn × Option (List Int)) (hres : srch (padF zs) glN (ssF false zs.length) 28562 (padF fs) = some res) :
    Calls Try.prog 60 #[v, u1, u2] w fun e w' => e = .returned (.bool (lookA res.1 (padF gs)).isSome) ∧ Below w.heap.size w w' := by
  obtain ⟨hfit, hfl, hf4⟩ := fits_pad hj hf
  obtain ⟨hgfit, hgl, hg4⟩ := fits_pad hj hg
  have HR := Lib.hid (reached_any zs fs v u1 false w hv h1 hf4 hj hfit res hres)
  have HFO := Lib.hid (fun (W : World) (hb : Below w.heap.size w W) => fillingOf_any gs u2 W (h2.grow hb) hg4)
  obtain ⟨g0, g1, g2, g3, hgg⟩ := agg4 (padF gs) (padF_len gs)
  rw [hgg] at HFO hgfit
  rw [hgg]
  simp only [aggI, List.map_cons, List.map_nil, encI] at HFO
  have HFK := Lib.hid hgfit.fok
  have hst := srch_tree _ _ (lsF false) (mF false zs.length) (lsF_ok false) (by have := mF_ok false zs.length; have := jugsB_len hj; omega) _ hfit _ res hres
  have HT := Lib.hid hst.1
  clear hv h1 h2 hj hf hg hres hfit hgfit hst hgg
  go_enter Try.func60, Try.ntmps60
  go_wp2_with fail
  refine HR.out.mono ?_
  rintro e w1 ⟨x, rfl, ⟨b, rfl, hsn⟩, hb⟩
  have HB := Lib.hid hb
  have HSN := Lib.hid hsn
  clear hb hsn HR
  go_wp2_with fail
  refine (HFO.out w1 HB.out).mono ?_
  rintro e w2 ⟨rfl, hb⟩
  have HB2 := Lib.hid (Below.andThen HB.out hb (Nat.le_refl _))
  have HS2 := Lib.hid (HSN.out.grow hb)
  clear hb HFO HB HSN
  obtain ⟨x0, x1, x2, x3, x4, x5, x6, hlk⟩ := look_next HS2.out HFK.out (tree_frm HT.out)
  go_wp2_with fail
  go_ret
  exact ⟨rfl, HB2.out.alloc (by have := HB2.out.size; omega) _⟩
set_option maxRecDepth 100000 in
set_option maxHeartbeats 2000000 in
theorem Back_ok (zs fs gs : List Int) (v u1 u2 : Value) (w : World) (hv : SlI w v zs) (h1 : SlI w u1 fs) (h2 : SlI w u2 gs) (hj : jugsB zs = true) (hf : fitsB zs fs = true) (hg : fitsB zs gs = true) (res rec : Sn × Option (List Int)) (hres : srch (padF zs) glN (ssF false zs.length) 28562 (padF fs) = some res) (hrec : srch (padF zs) glN (ssF false zs.length) 28562 (padF gs) = some rec) :
    Calls Try.prog 30 #[v, u1, u2] w fun e w' => e = .returned (.tuple #[.bool ((lookA res.1 (padF gs)).isSome && (lookA rec.1 (padF fs)).isSome), .int .i64 (if (lookA res.1 (padF gs)).isSome = true then 0 else 1)]) ∧ Below w.heap.size w w' := by
  have hn := jugsB_len hj
  have HC := Lib.hid (check2 hv (by omega) h1 h2)
  have he : errA zs [fs, gs] = 0 := by unfold errA; rw [if_pos hj, if_pos (by simp [hf, hg])]
  rw [he] at HC
  have HL1 := Lib.hid (fun (W : World) (hb : Below w.heap.size w W) => leads_any zs fs gs v u1 u2 W (hv.grow hb) (h1.grow hb) (h2.grow hb) hj hf hg res hres)
  have HL2 := Lib.hid (fun (W : World) (hb : Below w.heap.size w W) => leads_any zs gs fs v u2 u1 W (hv.grow hb) (h2.grow hb) (h1.grow hb) hj hg hf rec hrec)
  obtain ⟨a1, c1, e1⟩ : ∃ a1 c1, u1 = .slice a1 fs.length c1 := by obtain ⟨a, c, h, _⟩ := h1; exact ⟨a, c, h⟩
  obtain ⟨a2, c2, e2⟩ : ∃ a2 c2, u2 = .slice a2 gs.length c2 := by obtain ⟨a, c, h, _⟩ := h2; exact ⟨a, c, h⟩
  generalize (lookA res.1 (padF gs)).isSome = A at *
  generalize (lookA rec.1 (padF fs)).isSome = B at *
  clear hv h1 h2 hj hf hg he hres hrec
  generalize fs.length = k1 at *
  generalize gs.length = k2 at *
  subst e1 e2
  go_enter Try.func30, Try.ntmps30
  go_wp2_with fail
  refine HC.out.mono ?_
  rintro e w1 ⟨rfl, hb⟩
  have HB := Lib.hid hb
  clear hb HC
  go_wp2_with fail
  refine (HL1.out w1 HB.out).mono ?_
  rintro e w2 ⟨rfl, hb⟩
  have HB2 := Lib.hid (Below.andThen HB.out hb (Nat.le_refl _))
  clear hb HL1 HB
  cases A with
  | false =>
    go_wp2_with fail
    go_ret2
    exact ⟨rfl, HB2.out⟩
  | true =>
    go_wp2_with fail
    refine (HL2.out w2 HB2.out).mono ?_
    rintro e w3 ⟨rfl, hb⟩
    have HB3 := Lib.hid (Below.andThen HB2.out hb (Nat.le_refl _))
    clear hb HL2 HB2
    go_wp2_with fail
    go_ret2
    exact ⟨rfl, HB3.out⟩
/-- the greatest number of steps -/
def FarK (A : Sn) (K : Int) : Prop := (∀ F c, lookA A F = some c → c.k ≤ K) ∧ ∃ F c, lookA A F = some c ∧ c.k = K
set_option maxRecDepth 100000 in
set_option maxHeartbeats 4000000 in
theorem Farthest_ok (zs fs : List Int) (v u : Value) (cl : Bool) (w : World) (hv : SlI w v zs) (hu : SlI w u fs) (hj : jugsB zs = true) (hf : fitsB zs fs = true) (res : Sn × Option (List Int)) (hres : srch (padF zs) glN (ssF cl zs.length) 28562 (padF fs) = some res) :
    Calls Try.prog 29 #[v, u, .bool cl] w fun e w' => ∃ K, e = .returned (.tuple #[.int .i64 K, .int .i64 0]) ∧ FarK res.1 K ∧ Below w.heap.size w w' := by
  obtain ⟨hfit, hfl, hf4⟩ := fits_pad hj hf
  have HC := Lib.hid (check1 hv (by have := jugsB_len hj; omega) hu)
  rw [errA_fits hj hf] at HC
  have HR := Lib.hid (fun (W : World) (hb : Below w.heap.size w W) => reached_any zs fs v u cl W (hv.grow hb) (hu.grow hb) hf4 hj hfit res hres)
  have hst := srch_tree _ _ (lsF cl) (mF cl zs.length) (lsF_ok cl) (by have := mF_ok cl zs.length; have := jugsB_len hj; omega) _ hfit _ res hres
  have HT := Lib.hid hst.1
  have HS0 := Lib.hid hst.2.1
  obtain ⟨a1, c1, e1⟩ : ∃ a1 c1, u = .slice a1 fs.length c1 := by obtain ⟨a, c, h, _⟩ := hu; exact ⟨a, c, h⟩
  clear hv hu hj hf hres hfit hfl hf4 hst
  generalize fs.length = k1 at *
  subst e1
  go_enter Try.func29, Try.ntmps29
  go_wp2_with fail
  refine HC.out.mono ?_
  rintro e w1 ⟨rfl, hb⟩
  have HB := Lib.hid hb
  clear hb HC
  go_wp2_with fail
  refine (HR.out w1 HB.out).mono ?_
  rintro e w2 ⟨x, rfl, ⟨b, rfl, hsn⟩, hb⟩
  have HB2 := Lib.hid (Below.andThen HB.out hb (Nat.le_refl _))
  have HSN := Lib.hid hsn
  clear hb hsn HR HB
  go_wp2_with (at_range; refine wpList_range_seen rfl _ 74 rfl Try.underlying74 b _ _ rfl HSN.out ?_; rintro w3 hrg hgr hsz)
  have hb3 : Below w2.heap.size w2 w3 := ⟨hgr.os, hgr.tape, hgr.output, hgr.size, fun k hk => hgr.block k hk (by simp)⟩
  have HB3 := Lib.hid (Below.andThen HB2.out hb3 (Nat.le_refl _))
  have HRG := Lib.hid hrg
  have HBW := Lib.hid (show w.heap.size ≤ w2.heap.size from HB2.out.size)
  clear hrg hgr hb3 HB2 HSN hsz
  go_wp2_with fail
  go_frame
  go_loopw [9] (fun mv wr => ∃ vis c K, mv = .int .i64 K ∧ 0 ≤ K ∧ K ≤ 28561 ∧ Hid (RngAt wr b w2.heap.size res.1.length (seenV res.1) vis c ∧ Below w.heap.size w wr ∧ (∀ F ∈ vis, kOf res.1 F ≤ K) ∧ (K = 0 ∨ ∃ F c, lookA res.1 F = some c ∧ c.k = K))) (fun _ wr => wr.rangeLeft b w2.heap.size)
  case atStart => exact ⟨[], _, 0, rfl, by omega, by omega, Lib.hid ⟨HRG.out, HB3.out, (fun F hF => by cases hF), .inl rfl⟩⟩
  case round =>
    clear HRG HB3
    obtain ⟨vis, c, K, rfl, hK0, hK1, HRR⟩ := hrel
    go_wp2_with (at_next; refine wpList_next_seen rfl _ rfl b w2.heap.size _ _ vis c rfl HRR.out.1 ?_ ?_)
    · intro hall
      have hfar : FarK res.1 K := by
        refine ⟨fun F c hc => ?_, ?_⟩
        · have hs : (seenV res.1 F).isSome = true := by unfold seenV; rw [hc]; rfl
          have := HRR.out.2.2.1 F (hall F (HT.out.fit hc).1.fok hs)
          rwa [kOf_some hc] at this
        · rcases HRR.out.2.2.2 with h | h
          · exact ⟨_, c0, HS0.out, by rw [h]; rfl⟩
          · exact h
      have HFAR := Lib.hid hfar
      have HBE := Lib.hid HRR.out.2.1
      clear hfar hall HRR
      go_wp2_with fail
      go_ret2
      exact ⟨K, rfl, HFAR.out, HBE.out⟩
    · intro F v4 w4 c4 hF hS hvis hrg4 hlt4 hgr4 hsz4 hen
      obtain ⟨cF, hcF⟩ : ∃ cF, lookA res.1 F = some cF := by
        unfold seenV at hS
        cases hl : lookA res.1 F with
        | none => rw [hl] at hS; cases hS
        | some c => exact ⟨c, rfl⟩
      have hvv : v4 = cF.V := by unfold seenV at hS; rw [hcF] at hS; exact (Option.some.inj hS).symm
      have hk1 := HT.out.knn hcF
      have hk2 := HT.out.size
      obtain ⟨m0, m1, m2, m3, hm4⟩ := agg4 cF.frm (HT.out.fit hcF).2
      obtain ⟨q0, q1, q2, q3, rfl⟩ := agg4 F (HT.out.fit hcF).1.1
      have hV4 := Cm.V4 hm4
      rw [hvv, hV4] at hen ⊢
      simp only [aggI, List.map_cons, List.map_nil, encI] at hen ⊢
      have HKF := Lib.hid (kOf_some hcF)
      have HCF := Lib.hid hcF
      have HRG4 := Lib.hid hrg4
      have HLT4 := Lib.hid hlt4
      have T4 := Lib.hid (HRR.out.2.1.grown hgr4 HRR.out.2.1.size (fun k e => by have := Option.some.inj e; have := HBW.out; omega))
      have HLF := Lib.hid HRR.out.1.left
      have HV1 := Lib.hid HRR.out.2.2.1
      have HV2 := Lib.hid HRR.out.2.2.2
      clear hcF hvv hF hS hvis hrg4 hlt4 hgr4 HRR hm4 hV4
      have hkl : cF.k ≤ 28561 := by omega
      have hkz : 0 ≤ cF.k := hk1.1
      clear hk1 hk2
      generalize cF.sa = sa at *
      generalize cF.sb = sb at *
      generalize hkk : cF.k = kk at *
      have HKK := Lib.hid hkk
      clear hkk
      have HEN := hen
      clear hen
      have bF := (Below.refl w4.heap.size w4).alloc (Nat.le_refl _) (.cells #[.int .i64 m0, .int .i64 m1, .int .i64 m2, .int .i64 m3, .int .i64 sa, .int .i64 sb, .int .i64 kk] 94)
      have HBF := Lib.hid bF
      have HKF2 := Lib.hid HKF.out
      have HCK := Lib.hid (show ∃ F c, lookA res.1 F = some c ∧ c.k = kk from ⟨_, _, HCF.out, HKK.out⟩)
      clear bF HKF HCF HKK
      go_wp2_with fail
      refine ⟨⟨[q0, q1, q2, q3] :: vis, c4, (if K < kk then kk else K), rfl, by split <;> omega, by split <;> omega, Lib.hid ⟨HRG4.out.grow HBF.out, Below.andThen T4.out HBF.out (Nat.le_refl _), fun G hG => ?_, ?_⟩⟩, ?_⟩
      · rcases List.mem_cons.1 hG with rfl | hG
        · rw [HKF2.out]; split <;> omega
        · have := HV1.out G hG
          split <;> omega
      · split
        · exact .inr HCK.out
        · exact HV2.out
      · rw [(HRG4.out.grow HBF.out).left, HLF.out]; exact HLT4.out
end Go.Proofs.Ytlamppplnojpbaa
