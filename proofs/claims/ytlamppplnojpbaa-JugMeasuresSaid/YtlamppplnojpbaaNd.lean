import Derived.Test.YtlamppplnojpbaaNc
import Derived.Laws.AppendOwn
import Derived.ChangeKeysEq
import Derived.Maps.RangeWalk
import Derived.Maps.OwnIn
import Derived.Maps.AppendAt
import Derived.RangeFuncNested
import Derived.RangeFuncBound
import Derived.RangeFuncCalls
import Derived.RangeFuncLeaves
import Derived.Shelf.Abstract
import Derived.Shelf.RegionOpen
import Derived.WalkKit
import Derived.WalkMore
import Derived.OwnWalkIn
import Derived.TacticsInMore
import Derived.LoopNIn
import Derived.LoopIn
import Derived.WalkSpells
import Derived.WalkLawsBesides
import Derived.BigQuiet
import Derived.Deep.QuietTactic
import Derived.Lib.Hide
import Derived.Deep.RegionHeld3
import Derived.StillTailTactics
import Derived.Deep.LoopGhost
import Derived.Maps.OwnSet
import Derived.Lib.IndexAny
import Derived.Sort.QuietThIn
import Derived.Sort.QuietTacIn
import Derived.Sort.BigQuietIn
import Derived.Laws.OwnMore
namespace Go.Proofs.Ytlamppplnojpbaa
open Go.RowKit Go.Shelf
attribute [local go_sem] Oper.semAt_some
/-! the least numbers of steps to amounts, as the reference has them -/
def fndF (L : List (List Int)) (m : Nat) : Option (List Int) := L.find? fun f => decide ((m : Int) ∈ f)
def bst (A : Sn) (L : List (List Int)) (m : Nat) : Int := match fndF L m with
  | some f => kOf A (padF f)
  | none => -1
def bst2 (A : Sn) (L : List (List Int)) (f : List Int) (k m : Nat) : Int := match fndF L m with
  | some g => kOf A (padF g)
  | none => if (m : Int) ∈ f.take k then kOf A (padF f) else -1
def bstL (A : Sn) (L : List (List Int)) : List Int := (List.range 13).map (bst A L)
def bst2L (A : Sn) (L : List (List Int)) (f : List Int) (k : Nat) : List Int := (List.range 13).map (bst2 A L f k)
theorem bst2L_zero (A : Sn) (L : List (List Int)) (f : List Int) : bst2L A L f 0 = bstL A L := by
  unfold bst2L bstL
  refine List.map_congr_left fun m _ => ?_
  unfold bst2 bst
  cases fndF L m <;> simp
theorem bst2L_all (A : Sn) (L : List (List Int)) (f : List Int) : bst2L A L f f.length = bstL A (L ++ [f]) := by
  unfold bst2L bstL
  refine List.map_congr_left fun m _ => ?_
  unfold bst2 bst fndF
  rw [List.find?_append, List.take_length]
  cases h : L.find? fun f => decide ((m : Int) ∈ f) with
  | some g => rfl
  | none =>
    simp only [Option.none_or]
    by_cases hm : (m : Int) ∈ f
    · rw [if_pos hm]; simp [hm]
    · rw [if_neg hm]; simp [hm]
theorem bst2L_len (A : Sn) (L : List (List Int)) (f : List Int) (k : Nat) : (bst2L A L f k).length = 13 := by simp [bst2L]
theorem bst2L_get (A : Sn) (L : List (List Int)) (f : List Int) (k m : Nat) (hm : m < 13) : (bst2L A L f k).getD m 0 = bst2 A L f k m := by
  rw [getD_lt (by rw [bst2L_len]; exact hm)]; simp [bst2L]
theorem bst2_step {A : Sn} {L : List (List Int)} {f : List Int} {k x : Nat} (hk : k < f.length) (hx : f[k] = (x : Int)) (h0 : ∀ g ∈ L, 0 ≤ kOf A (padF g)) (_hf : 0 ≤ kOf A (padF f)) :
    (0 ≤ bst2 A L f k x → bst2L A L f (k + 1) = bst2L A L f k) ∧ (bst2 A L f k x < 0 → bst2L A L f (k + 1) = (bst2L A L f k).set x (kOf A (padF f))) := by
  have hmem : ∀ m : Nat, (m : Int) ∈ f.take (k + 1) ↔ (m : Int) ∈ f.take k ∨ m = x := fun m => by
    rw [List.take_succ_eq_append_getElem hk, List.mem_append, List.mem_singleton, hx]
    constructor
    · rintro (h | h)
      · exact .inl h
      · exact .inr (by omega)
    · rintro (h | h)
      · exact .inl h
      · exact .inr (by omega)
  refine ⟨fun h => ?_, fun h => ?_⟩
  · unfold bst2L
    refine List.map_congr_left fun m _ => ?_
    unfold bst2 at h ⊢
    cases hl : fndF L m with
    | some g => rfl
    | none =>
      dsimp only
      by_cases hm : m = x
      · subst hm
        rw [hl] at h
        dsimp only at h
        split at h
        · rename_i h2
          rw [if_pos ((hmem m).2 (.inl h2)), if_pos h2]
        · omega
      · by_cases h2 : (m : Int) ∈ f.take k
        · rw [if_pos h2, if_pos ((hmem m).2 (.inl h2))]
        · rw [if_neg h2, if_neg (fun h3 => ((hmem m).1 h3).elim h2 hm)]
  · apply List.ext_getElem
    · simp [bst2L]
    · intro m h1 h2
      rw [List.getElem_set]
      simp only [bst2L, List.getElem_map, List.getElem_range]
      have hlx : fndF L x = none := by
        unfold bst2 at h
        cases hl : fndF L x with
        | none => rfl
        | some g =>
          rw [hl] at h
          dsimp only at h
          have := h0 g (List.mem_of_find?_eq_some hl)
          omega
      by_cases hm : x = m
      · subst hm
        rw [if_pos rfl]
        unfold bst2
        rw [hlx]
        dsimp only
        rw [if_pos ((hmem x).2 (.inr rfl))]
      · rw [if_neg hm]
        unfold bst2
        cases hl : fndF L m with
        | some g => rfl
        | none =>
          dsimp only
          by_cases h2 : (m : Int) ∈ f.take k
          · rw [if_pos h2, if_pos ((hmem m).2 (.inl h2))]
          · rw [if_neg h2, if_neg (fun h3 => ((hmem m).1 h3).elim h2 (fun e => hm e.symm))]
theorem neg13 : (List.replicate 13 (-1 : Int)) = bstL [] [] := by decide
theorem bstL_nil (A : Sn) : bstL A [] = List.replicate 13 (-1 : Int) := by
  unfold bstL bst fndF; simp; decide
set_option maxRecDepth 100000 in
set_option maxHeartbeats 1000000 in
theorem refFewest_any (ss : List Int) (v : Value) (w : World) (hv : SlI w v ss) (hj : jugsB ss = true) (res : Sn × Option (List Int)) (hres : srch (padF ss) glN (ssF false ss.length) 28562 [0, 0, 0, 0] = some res) :
    Calls Try.prog 39 #[v] w fun e w' => ∃ s L, e = .returned s ∧ SlI w' s (bstL res.1 L) ∧ res.1.map Prod.fst = (L.map padF).reverse ∧ (∀ f ∈ L, fitsB ss f = true) ∧ Below w.heap.size w w' := by
  have hn := jugsB_len hj
  have hzf := zeros_fit hj
  have hzp := zeros_pad ss.length hn.2
  have hfit := (fits_pad hj hzf).1
  have hst := srch_tree _ _ (lsF false) (mF false ss.length) (lsF_ok false) (by have := mF_ok false ss.length; omega) _ hfit _ res (by rw [hzp]; exact hres)
  have HTR := Lib.hid hst.1
  have HS0 := Lib.hid hst.2.1
  have HALL := Lib.hid (fun (W : World) (hb : Below w.heap.size w W) (g : Nat) (hg : g < W.heap.size) (hi : IntsAt W g 0 (List.replicate ss.length 0)) => refAll_any ss (List.replicate ss.length 0) v g ss.length false W (hv.grow hb) hg hi (by simp) hj hzf res (by rw [hzp]; exact hres))
  have HV := Lib.hid hv
  have HJ := Lib.hid hj
  have hmk := make_ints ss.length (by omega)
  have hmk13 : ∀ w : World, (Instr.makeSlice 22 (.int .i64 13) (.int .i64 13)).run Try.prog w = .ok (.slice (some ⟨w.heap.size, 0, none⟩) 13 13) (w.alloc (.cells (List.replicate 13 (.int .i64 0)).toArray 3)) := fun w => make_ints 13 (by omega) w
  have HMK := Lib.hid (hmk w)
  have HMK13 := Lib.hid hmk13
  obtain ⟨va, vc, rfl, _⟩ := hv
  have hb0 : Below w.heap.size w (w.alloc (.cells (List.replicate ss.length (.int .i64 0)).toArray 3)) := Below.al (Below.refl _ _) (Nat.le_refl _) _
  have hi0 : IntsAt (w.alloc (.cells (List.replicate ss.length (.int .i64 0)).toArray 3)) w.heap.size 0 (List.replicate ss.length 0) := by
    refine ⟨.inr (by rw [size_al]; omega), fun i hi => ?_⟩
    simp only [List.length_replicate] at hi
    rw [cell_al, if_pos rfl]
    simp [hi]
  have hal := HALL.out _ hb0 w.heap.size (by rw [size_al]; omega) hi0
  rw [List.length_replicate] at hal
  have HAL := Lib.hid hal
  have HB0 := Lib.hid hb0
  have hmkw := hmk w
  have HN := Lib.hid hn
  have hn3 : ss.length ≤ 4 := hn.2
  clear hj hres hst hzf hzp hfit hmk hmk13 hi0 hal hb0 HALL hn
  go_enter Try.func39, Try.ntmps39
  go_wp2_with fail
  simp only [List.toArray_replicate] at HAL HB0 ⊢
  refine HAL.out.mono ?_
  rintro e w2 ⟨s1, s2, L, rfl, hs1, hs2, hk, hfits, hb2⟩
  have hll : res.1.length = L.length := by have := congrArg List.length hk; simpa using this
  have hL1 : L.length ≤ 28561 := by have := HTR.out.size; omega
  have hL0 : 0 < L.length := by
    have := List.length_pos_of_mem (lookA_mem _ _ _ HS0.out); omega
  have HKN := Lib.hid (show ∀ f ∈ L, ∃ c, lookA res.1 (padF f) = some c ∧ 0 ≤ c.k ∧ c.k < 28562 from fun f hf => by
    have : padF f ∈ res.1.map Prod.fst := by rw [hk, List.mem_reverse]; exact List.mem_map_of_mem hf
    obtain ⟨c, hc⟩ := Option.isSome_iff_exists.1 (lookA_key _ _ this)
    have h1 := HTR.out.knn hc
    have h2 := HTR.out.size
    exact ⟨c, hc, h1.1, by omega⟩)
  obtain ⟨r, cap, rfl, hcap⟩ := hs2.open hL0
  obtain ⟨bt, ot, N, ct, rfl, hcN, hN2, hbt, htab⟩ := tab_open HJ.out HTR.out.fits hs1
  have HTB := Lib.hid htab
  have HBT := Lib.hid hbt
  have HS2 := Lib.hid hs2
  have HFT := Lib.hid hfits
  have HKEY := Lib.hid hk
  have HB2 := Lib.hid (Below.andThen HB0.out hb2 (Nat.le_refl _))
  have HX2 := Lib.hid (HV.out.grow HB2.out)
  have hmk2 := HMK13.out w2
  have h13 := World.ownsRow_lit (base := w2.heap.size) (e := 3) (size := 1) w2 (List.replicate 13 (.int .i64 0)).toArray 13 (Nat.le_refl _) (by unfold maxLen; omega) (by simp)
  have H13 := Lib.hid (show (w2.alloc (.cells #[.int .i64 0, .int .i64 0, .int .i64 0, .int .i64 0, .int .i64 0, .int .i64 0, .int .i64 0, .int .i64 0, .int .i64 0, .int .i64 0, .int .i64 0, .int .i64 0, .int .i64 0] 3)).ownsRow w2.heap.size 3 1 (.slice (some ⟨w2.heap.size, 0, none⟩) 13 13) 13 ((List.replicate 0 (-1 : Int) ++ List.replicate (13 - 0) 0).map encI) by
    have e : (List.replicate 13 (Value.int .i64 0)).toArray.toList = ((List.replicate 0 (-1 : Int) ++ List.replicate (13 - 0) 0).map encI) := rfl
    rw [← e]; exact h13)
  have HB13 := Lib.hid (Below.al (Below.refl w2.heap.size w2) (Nat.le_refl _) (.cells #[.int .i64 0, .int .i64 0, .int .i64 0, .int .i64 0, .int .i64 0, .int .i64 0, .int .i64 0, .int .i64 0, .int .i64 0, .int .i64 0, .int .i64 0, .int .i64 0, .int .i64 0] 3))
  clear hs1 hs2 hk hfits hb2 hll hbt htab h13 HAL hmkw HS0
  go_wp2_with fail
  generalize w2.alloc (.cells #[.int .i64 0, .int .i64 0, .int .i64 0, .int .i64 0, .int .i64 0, .int .i64 0, .int .i64 0, .int .i64 0, .int .i64 0, .int .i64 0, .int .i64 0, .int .i64 0, .int .i64 0] 3) = W0 at *
  clear hmk2
  go_loopw [6] (fun iv wx => ∃ i : Nat, i ≤ 13 ∧ iv = .int .i64 (i : Int) ∧ Hid (wx.ownsRow w2.heap.size 3 1 (.slice (some ⟨w2.heap.size, 0, none⟩) 13 13) 13 ((List.replicate i (-1 : Int) ++ List.replicate (13 - i) 0).map encI) ∧ Below w2.heap.size w2 wx)) (fun iv _ => (13 - intOf iv).toNat)
  case atStart => exact ⟨0, by omega, rfl, Lib.hid ⟨H13.out, HB13.out⟩⟩
  case round =>
    clear H13 HB13
    obtain ⟨i, hi', rfl, HO⟩ := hrel
    have kw : IntKind.i64.wrap ((i : Int) + 1) = ((i + 1 : Nat) : Int) := by rw [i64_of _ (by omega) (by omega)]; omega
    by_cases hlt : i < 13
    · have hd : decide ((i : Int) < 13) = true := decide_eq_true (by omega)
      obtain ⟨k1, k2⟩ := own_cell HO.out.1 i hlt
      have HO2 := Lib.hid (own_put HO.out.1 i (-1))
      rw [neg_row 13 i hlt] at HO2
      go_wp2_with fail
      exact ⟨⟨i + 1, by omega, by simp, Lib.hid ⟨HO2.out, HO.out.2.setCell (p := ⟨w2.heap.size, i, none⟩) (Nat.le_refl _) _⟩⟩, by simp [intOf]; omega⟩
    · have hd : decide ((i : Int) < 13) = false := decide_eq_false (by omega)
      obtain rfl : i = 13 := by omega
      have HON := Lib.hid (show wr.ownsRow w2.heap.size 3 1 (.slice (some ⟨w2.heap.size, 0, none⟩) 13 13) 13 ((bstL res.1 (L.take 0)).map encI) by
        have := HO.out.1
        rw [List.take_zero, bstL_nil]
        exact this)
      have HBN := Lib.hid HO.out.2
      clear HO
      have e13 : ((13 : Nat) : Int) = 13 := rfl
      rw [e13] at hd ⊢
      clear e13
      go_wp2_with fail
      go_loopw [7] (fun iv wx => ∃ i : Nat, i ≤ L.length ∧ iv = .int .i64 (i : Int) ∧ Hid (wx.ownsRow w2.heap.size 3 1 (.slice (some ⟨w2.heap.size, 0, none⟩) 13 13) 13 ((bstL res.1 (L.take i)).map encI) ∧ Below w2.heap.size w2 wx)) (fun iv _ => (L.length - intOf iv).toNat)
      case atStart => exact ⟨0, by omega, rfl, Lib.hid ⟨HON.out, HBN.out⟩⟩
      case round =>
        clear HON HBN
        obtain ⟨i, hi', rfl, HO⟩ := hrel
        have kw : IntKind.i64.wrap ((i : Int) + 1) = ((i + 1 : Nat) : Int) := by rw [i64_of _ (by omega) (by omega)]; omega
        by_cases hlt : i < L.length
        · have hd : decide ((i : Int) < (L.length : Int)) = true := decide_eq_true (by omega)
          have hdn : decide (i < L.length) = true := decide_eq_true hlt
          have hfi : fitsB ss L[i] = true := HFT.out _ (List.getElem_mem hlt)
          have HKI := Lib.hid (HKN.out _ (List.getElem_mem hlt))
          have HK0 := Lib.hid (show ∀ g ∈ L.take i, 0 ≤ kOf res.1 (padF g) from fun g hg => by
            obtain ⟨c, hc, h0, _⟩ := HKN.out g (List.mem_of_mem_take hg)
            rw [kOf_some hc]; exact h0)
          have HTK := Lib.hid (show L.take (i + 1) = L.take i ++ [L[i]] from List.take_succ_eq_append_getElem hlt)
          obtain ⟨u, hcell, hent⟩ := HS2.out.cell i hlt
          obtain ⟨b, cb, rfl, hcb, hib, hgb⟩ := hent.row
          have HCE := Lib.hid (show ∀ W, Below w2.heap.size w2 W → W.cell? ⟨r, i, none⟩ = some (.slice (some ⟨b, 0, none⟩) L[i].length cb) from fun W hb => below_at hb (by
            rcases Nat.lt_or_ge r w2.heap.size with h | h
            · exact h
            · rw [World.cell?, Array.getElem?_eq_none h] at hcell; cases hcell) hcell)
          have HIB := Lib.hid (And.intro hib hgb)
          have HFI := Lib.hid hfi
          have HFL := Lib.hid (fits_pad HJ.out hfi).2.1
          clear hcell hent hib hgb hfi
          generalize L[i] = f at *
          have HO2 := Lib.hid (show wr.ownsRow w2.heap.size 3 1 (.slice (some ⟨w2.heap.size, 0, none⟩) 13 13) 13 ((bst2L res.1 (L.take i) f 0).map encI) ∧ Below w2.heap.size w2 wr by rw [bst2L_zero]; exact HO.out)
          go_wp2_with fail
          go_loopw [8] (fun kv wx => ∃ k : Nat, k ≤ f.length ∧ kv = .int .i64 (k : Int) ∧ Hid (wx.ownsRow w2.heap.size 3 1 (.slice (some ⟨w2.heap.size, 0, none⟩) 13 13) 13 ((bst2L res.1 (L.take i) f k).map encI) ∧ Below w2.heap.size w2 wx)) (fun kv _ => (f.length - intOf kv).toNat)
          case atStart => exact ⟨0, by omega, rfl, HO2⟩
          case round =>
            clear HO2 HO
            obtain ⟨k, hk', rfl, HO⟩ := hrel
            have hfb : f.length ≤ 4 := by rw [HFL.out]; exact hn3
            have jw : IntKind.i64.wrap ((k : Int) + 1) = ((k + 1 : Nat) : Int) := by rw [i64_of _ (by omega) (by omega)]; omega
            have hce := HCE.out wr HO.out.2
            by_cases hkl : k < f.length
            · have hd2 : decide ((k : Int) < (f.length : Int)) = true := decide_eq_true (by omega)
              have hdn2 : decide (k < f.length) = true := decide_eq_true hkl
              have c1 := below_at HO.out.2 HIB.out.2 (HIB.out.1.at_ k hkl)
              rw [Nat.zero_add] at c1
              have hfx : 0 ≤ f[k] ∧ f[k] ≤ 12 := by
                have h1 := (fits_pad HJ.out HFI.out).1.2 k (by omega)
                rw [padF_getD _ _ (by omega), getD_lt hkl] at h1
                omega
              obtain ⟨x, hx⟩ : ∃ x : Nat, f[k] = (x : Int) := ⟨f[k].toNat, by omega⟩
              have hx13 : x < 13 := by omega
              obtain ⟨cf, hcf, hcf0, hcf1⟩ := HKI.out
              have hstep := bst2_step (A := res.1) hkl hx HK0.out (by rw [kOf_some hcf]; exact hcf0)
              rw [kOf_some hcf] at hstep
              obtain ⟨k1, k2⟩ := own_cell HO.out.1 x hx13
              rw [bst2L_get _ _ _ _ _ hx13] at k1
              rw [hx] at c1
              have HSTEP := Lib.hid hstep
              have HCF := Lib.hid hcf
              clear hfx hx hstep hcf
              generalize bst2 res.1 (L.take i) f k x = q at *
              by_cases hq : q < 0
              · have hdq : decide (q < 0) = true := decide_eq_true hq
                obtain ⟨d, hdN, hcd, hct⟩ := HTB.out f HFI.out
                rw [HCF.out] at hct
                simp only [Option.map_some, Option.getD_some] at hct
                have hco := Code_any ss f (.slice va ss.length vc) (.slice (some ⟨b, 0, none⟩) f.length cb) wr (HX2.out.grow HO.out.2) ⟨_, cb, rfl, hcb, .inr ⟨b, 0, rfl, Nat.lt_of_lt_of_le HIB.out.2 HO.out.2.size, HIB.out.1.below HO.out.2 HIB.out.2⟩⟩ HJ.out HFI.out
                rw [hcd] at hco
                have HCO := Lib.hid hco
                have HCT := Lib.hid (below_at HO.out.2 HBT.out hct)
                have HBT2 := Lib.hid (Nat.lt_of_lt_of_le HBT.out HO.out.2.size)
                have HPN := Lib.hid (fun (W : World) (hb : Below wr.heap.size wr W) => own_put (own_grow HO.out.1 hb) x cf.k)
                rw [← HSTEP.out.2 hq] at HPN
                have HLT := Lib.hid (own_cell HO.out.1 x hx13)
                clear HSTEP hco hcd hct
                go_wp2_with fail
                refine HCO.out.mono ?_
                rintro e w5 ⟨rfl, hb5⟩
                have k3 := below_at hb5 HBT2.out HCT.out
                obtain ⟨k4, k5⟩ := own_cell (own_grow HO.out.1 hb5) x hx13
                have HPUT := Lib.hid (HPN.out w5 hb5)
                have HB5 := Lib.hid (Below.trans HO.out.2 (hb5.mono HO.out.2.size))
                clear hb5 HCO k1 k2
                go_wp2_with fail
                exact ⟨⟨k + 1, by omega, by simp, Lib.hid ⟨HPUT.out, HB5.out.setCell (p := ⟨w2.heap.size, x, none⟩) (Nat.le_refl _) _⟩⟩, by simp [intOf]; omega⟩
              · have hdq : decide (q < 0) = false := decide_eq_false hq
                have HSM := Lib.hid (HSTEP.out.1 (by omega))
                clear HSTEP
                go_wp2_with fail
                exact ⟨⟨k + 1, by omega, by simp, by rw [HSM.out]; exact HO⟩, by simp [intOf]; omega⟩
            · have hd2 : decide ((k : Int) < (f.length : Int)) = false := decide_eq_false (by omega)
              have hdn2 : decide (k < f.length) = false := decide_eq_false hkl
              obtain rfl : k = f.length := by omega
              have HON := Lib.hid (show wr.ownsRow w2.heap.size 3 1 (.slice (some ⟨w2.heap.size, 0, none⟩) 13 13) 13 ((bstL res.1 (L.take (i + 1))).map encI) ∧ Below w2.heap.size w2 wr by
                rw [HTK.out, ← bst2L_all]; exact HO.out)
              go_wp2_with fail
              exact ⟨⟨i + 1, by omega, by simp, HON⟩, by simp [intOf]; omega⟩
        · have hd : decide ((i : Int) < (L.length : Int)) = false := decide_eq_false (by omega)
          have hdn : decide (i < L.length) = false := decide_eq_false hlt
          obtain rfl : i = L.length := by omega
          go_wp2_with fail
          go_ret
          refine ⟨_, L, rfl, ?_, HKEY.out, HFT.out, ?_⟩
          · have := HO.out.1
            rw [List.take_length] at this
            exact sli_own this
          · exact Below.trans HB2.out (HO.out.2.mono HB2.out.size)
end Go.Proofs.Ytlamppplnojpbaa
