import Derived.Test.YtlamppplnojpbaaNd
import Derived.Laws.AppendOwn
import Derived.ChangeKeysEq
import Derived.Maps.RangeWalk
import Derived.Maps.OwnIn
import Derived.Maps.AppendAt
import Derived.RangeFuncNested
import Derived.RangeFuncBound
import Derived.RangeFuncCalls
import Derived.RangeFuncLeaves
import Derived.Shelf.Abstract
import Derived.Shelf.RegionOpen
import Derived.WalkKit
import Derived.WalkMore
import Derived.OwnWalkIn
import Derived.TacticsInMore
import Derived.LoopNIn
import Derived.LoopIn
import Derived.WalkSpells
import Derived.WalkLawsBesides
import Derived.BigQuiet
import Derived.Deep.QuietTactic
import Derived.Lib.Hide
import Derived.Deep.RegionHeld3
import Derived.StillTailTactics
import Derived.Deep.LoopGhost
import Derived.Maps.OwnSet
import Derived.Lib.IndexAny
import Derived.Sort.QuietThIn
import Derived.Sort.QuietTacIn
import Derived.Sort.BigQuietIn
import Derived.Laws.OwnMore
namespace Go.Proofs.Ytlamppplnojpbaa
open Go.RowKit Go.Shelf
attribute [local go_sem] Oper.semAt_some
/-- what a search found, whatever its goal -/
theorem way_any {P S : List Int} {gl : List Int → Bool} {cl : Bool} {n : Nat} (hn4 : n ≤ 4) (hS : FitP P S) {res : Sn × Option (List Int)} (hres : srch P gl (ssF cl n) 28562 S = some res) {g : List Int} (hg : res.2 = some g) :
    goF P S (wayF res) = g ∧ (∀ x ∈ wayF res, x ∈ ssF cl n) ∧ gl g = true ∧ ∀ m F, Rch P (ssF cl n) S m F → gl F = true → (wayF res).length ≤ m := by
  have hm := mF_ok cl n
  obtain ⟨ht, _, _⟩ := srch_tree P gl (lsF cl) (mF cl n) (lsF_ok cl) (by omega) S hS 28562 res hres
  have hL := srch_least _ _ _ _ _ _ hres
  obtain ⟨h1, c, hc, hmin⟩ := hL.got g hg
  have k0 := (ht.knn hc).1
  have hcm : cmOf res.1 g = c := by unfold cmOf; rw [hc]; rfl
  have hw : wayF res = (trc c.k.toNat res.1 c).reverse := by unfold wayF; rw [hg]; dsimp only; rw [hcm]
  obtain ⟨g1, g2⟩ := trc_goes ht c.k.toNat hc (by omega)
  rw [hw]
  refine ⟨g1, fun x hx => g2 x (List.mem_reverse.1 hx), h1, fun m F hr hF => ?_⟩
  have := hmin m F hr hF
  rw [List.length_reverse, trc_len]; omega
theorem find_least {α : Type} {R : α → α → Prop} (hR : ∀ a, R a a) {p : α → Bool} : ∀ {L : List α} {f : α}, L.Pairwise R → L.find? p = some f → ∀ g ∈ L, p g = true → R f g
  | [], _, _, h, _, _, _ => by simp at h
  | x :: xs, f, hp, h, g, hg, hpg => by
    rw [List.find?_cons] at h
    rw [List.pairwise_cons] at hp
    cases hx : p x with
    | true =>
      rw [hx] at h
      cases h
      rcases List.mem_cons.1 hg with rfl | hg
      · exact hR _
      · exact hp.1 g hg
    | false =>
      rw [hx] at h
      rcases List.mem_cons.1 hg with rfl | hg
      · rw [hx] at hpg; cases hpg
      · exact find_least hR hp.2 h g hg hpg
theorem list_sorted {A : Sn} {L : List (List Int)} (hd : Desc A) (hn : (A.map Prod.fst).Nodup) (hk : A.map Prod.fst = (L.map padF).reverse) : L.Pairwise fun f g => kOf A (padF f) ≤ kOf A (padF g) := by
  have h1 : (A.map Prod.fst).Pairwise fun x y => kOf A y ≤ kOf A x := by
    rw [List.pairwise_map]
    refine List.Pairwise.imp_of_mem ?_ hd
    intro a b ha hb hab
    rw [kOf_some (mem_look hn a ha), kOf_some (mem_look hn b hb)]
    exact hab
  rw [hk, List.pairwise_reverse, List.pairwise_map] at h1
  exact h1
theorem hold_iff {ss f : List Int} (hj : jugsB ss = true) (hf : fitsB ss f = true) (a : Int) : glA ss.length a (padF f) = decide (a ∈ f) := by
  obtain ⟨_, hl, h4⟩ := fits_pad hj hf
  unfold glA holdsB
  rw [padF_app h4, ← hl, List.take_left]
/-- the least number of steps to an amount is that of the way -/
theorem meas_table {ss : List Int} (hj : jugsB ss = true) {res rea : Sn × Option (List Int)} {m : Nat} (hres : srch (padF ss) glN (ssF false ss.length) 28562 [0, 0, 0, 0] = some res) (hrea : srch (padF ss) (glA ss.length (m : Int)) (ssF false ss.length) 28562 [0, 0, 0, 0] = some rea)
    {L : List (List Int)} (hk : res.1.map Prod.fst = (L.map padF).reverse) (hfits : ∀ f ∈ L, fitsB ss f = true) :
    (rea.2.isSome = false → bst res.1 L m = -1) ∧ (rea.2.isSome = true → ((wayF rea).length : Int) = bst res.1 L m ∧ (m : Int) ∈ (goF ss (List.replicate ss.length 0) (wayF rea)) ∧ ∀ p ∈ wayF rea, okP ss.length p = true) ∧ bst res.1 L m < 28562 := by
  have hn := jugsB_len hj
  have hm := mF_ok false ss.length
  have hzp := zeros_pad ss.length hn.2
  have hz := fits_pad hj (zeros_fit hj)
  have hfit : FitP (padF ss) [0, 0, 0, 0] := by rw [← hzp]; exact hz.1
  obtain ⟨ht, _, _⟩ := srch_tree _ _ (lsF false) (mF false ss.length) (lsF_ok false) (by omega) _ hfit _ res hres
  have hL := srch_least _ _ _ _ _ _ hres
  have hA := srch_least _ _ _ _ _ _ hrea
  have hnone : res.2 = none := by
    rcases h : res.2 with _ | g
    · rfl
    · have := (hL.got g h).1; simp [glN] at this
  have hall := (hL.non hnone).1
  have hsrt := list_sorted (srch_desc hres) ht.nodup hk
  have hin : ∀ F, (lookA res.1 F).isSome = true → ∃ f ∈ L, padF f = F := fun F hF => by
    obtain ⟨c, hc⟩ := Option.isSome_iff_exists.1 hF
    have : F ∈ res.1.map Prod.fst := List.mem_map_of_mem (lookA_mem _ _ _ hc)
    rw [hk, List.mem_reverse, List.mem_map] at this
    exact this
  have hlk : ∀ f ∈ L, ∃ c, lookA res.1 (padF f) = some c := fun f hf => by
    have : padF f ∈ res.1.map Prod.fst := by rw [hk, List.mem_reverse]; exact List.mem_map_of_mem hf
    exact Option.isSome_iff_exists.1 (lookA_key _ _ this)
  cases hs : rea.2 with
  | none =>
    have hno := hA.non hs
    have hf : fndF L m = none := by
      unfold fndF
      rw [List.find?_eq_none]
      intro f hf hd
      obtain ⟨c, hc⟩ := hlk f hf
      have hr := ht.rch hc
      obtain ⟨c2, hc2, _⟩ := hno.1 _ _ hr
      have := hno.2 _ _ hc2
      rw [hold_iff hj (hfits f hf)] at this
      rw [this] at hd; cases hd
    unfold bst
    rw [hf]
    exact ⟨fun _ => rfl, fun h => by simp at h, by show (-1 : Int) < 28562; omega⟩
  | some g =>
    obtain ⟨w1, w2, w3, w4⟩ := way_any hn.2 hfit hrea hs
    have h0 : Rch (padF ss) (ssF false ss.length) [0, 0, 0, 0] 0 [0, 0, 0, 0] := rfl
    have hr := rch_go h0 (wayF rea) w2
    rw [w1, Nat.zero_add] at hr
    obtain ⟨c2, hc2, hle⟩ := hall _ _ hr
    obtain ⟨f', hf', hpf'⟩ := hin g (by rw [hc2]; rfl)
    have hmf : decide ((m : Int) ∈ f') = true := by rw [← hold_iff hj (hfits f' hf'), hpf']; exact w3
    obtain ⟨f, hf⟩ : ∃ f, fndF L m = some f := by
      unfold fndF
      exact Option.isSome_iff_exists.1 (List.find?_isSome.2 ⟨f', hf', hmf⟩)
    have hfL : f ∈ L := List.mem_of_find?_eq_some hf
    have hfm : decide ((m : Int) ∈ f) = true := by have := List.find?_some hf; exact this
    obtain ⟨c, hc⟩ := hlk f hfL
    have e1 := find_least (R := fun f g => kOf res.1 (padF f) ≤ kOf res.1 (padF g)) (fun _ => Int.le_refl _) hsrt hf f' hf' hmf
    rw [hpf', kOf_some hc, kOf_some hc2] at e1
    have k0 := ht.knn hc
    have hsz := ht.size
    have e2 := w4 _ _ (ht.rch hc) (by rw [hold_iff hj (hfits f hfL)]; exact hfm)
    have hb : bst res.1 L m = c.k := by unfold bst; rw [hf]; exact kOf_some hc
    rw [hb]
    have hok : ∀ p ∈ wayF rea, okP ss.length p = true := fun p hp => (ssF_ok (w2 p hp)).1
    refine ⟨fun h => by simp at h, fun _ => ⟨by omega, ?_, hok⟩, by omega⟩
    rw [← hzp, pad_goF ss hn.2 _ _ hz.2.1 hok, ← hpf'] at w1
    have hl1 : (goF ss (List.replicate ss.length 0) (wayF rea)).length = ss.length := by rw [goF_len]; exact hz.2.1
    have hl2 := (fits_pad hj (hfits f' hf')).2.1
    rw [padF_app (by omega), padF_app (by omega), hl1, hl2] at w1
    rw [List.append_cancel_right w1]
    exact of_decide_eq_true hmf
theorem amt_best {ss : List Int} (hj : jugsB ss = true) {A : Sn} {L : List (List Int)} (hk : A.map Prod.fst = (L.map padF).reverse) (hfits : ∀ f ∈ L, fitsB ss f = true) (h0 : ∀ f ∈ L, 0 ≤ kOf A (padF f)) (m : Nat) : amtB A ss.length m = decide (0 ≤ bst A L m) := by
  have hp : ∀ f ∈ L, (padF f).take ss.length = f := fun f hf => by
    obtain ⟨_, hl, h4⟩ := fits_pad hj (hfits f hf)
    rw [padF_app h4, ← hl, List.take_left]
  rw [Bool.eq_iff_iff, decide_eq_true_eq]
  unfold amtB
  rw [List.any_eq_true]
  constructor
  · rintro ⟨p, hpA, hm⟩
    have hpk : p.1 ∈ A.map Prod.fst := List.mem_map_of_mem hpA
    rw [hk, List.mem_reverse, List.mem_map] at hpk
    obtain ⟨f, hf, e⟩ := hpk
    rw [← e, hp f hf] at hm
    obtain ⟨g, hg⟩ : ∃ g, fndF L m = some g := Option.isSome_iff_exists.1 (List.find?_isSome.2 ⟨f, hf, hm⟩)
    unfold bst
    rw [hg]
    exact h0 g (List.mem_of_find?_eq_some hg)
  · intro h
    unfold bst at h
    cases hf : fndF L m with
    | none => rw [hf] at h; simp at h
    | some f =>
      have hfL : f ∈ L := List.mem_of_find?_eq_some hf
      have hfm : decide ((m : Int) ∈ f) = true := by have := List.find?_some hf; exact this
      have : padF f ∈ A.map Prod.fst := by rw [hk, List.mem_reverse]; exact List.mem_map_of_mem hfL
      obtain ⟨p, hpA, e⟩ := List.mem_map.1 this
      exact ⟨p, hpA, by rw [e, hp f hfL]; exact hfm⟩
def wntL (A : Sn) (L : List (List Int)) (k : Nat) : List Int := ((List.range k).filter fun m => decide (0 ≤ bst A L m)).map fun i : Nat => (i : Int)
theorem m13_raw (x : Int) : wrap64 ((IntKind.u64.wrap x).tmod 13) = x % 18446744073709551616 % 13 := by
  have t1 : (IntKind.u64.wrap x).tmod 13 = x % 18446744073709551616 % 13 := by rw [u64_wrap]; exact Int.tmod_eq_emod_of_nonneg (by omega)
  rw [t1]
  unfold wrap64
  omega
set_option maxRecDepth 100000 in
set_option maxHeartbeats 1000000 in
theorem JugMeasures_any (zs : List Int) (am : Int) (v : Value) (w : World) (hv : SlI w v zs) (h1 : zs.length ≤ 9223372036854775807) (_ha : -9223372036854775808 ≤ am ∧ am ≤ 9223372036854775807) :
    Calls Try.prog 8 #[v, .int .i64 am] w fun e w' => e = .returned (.bool true) ∧ Below w.heap.size w w' := by
  obtain ⟨i0, hi, hz0, hz1, hz2⟩ := info_parts info3
  have HT := Lib.hid (tame_any zs v 3 (by omega) w hv h1)
  have hj0 := tameF_jugs zs 3 (by omega)
  generalize tameF zs 3 = ss at *
  have hn := jugsB_len hj0
  have hzp := zeros_pad ss.length hn.2
  have hz := zeros_fit hj0
  obtain ⟨res, hres⟩ := ex_srch hj0 hz glN false
  rw [hzp] at hres
  have hst := srch_tree _ _ (lsF false) (mF false ss.length) (lsF_ok false) (by have := mF_ok false ss.length; omega) _ (by rw [← hzp]; exact (fits_pad hj0 hz).1) _ res hres
  have HTR := Lib.hid hst.1
  have HRES := Lib.hid hres
  have HJ := Lib.hid hj0
  have HZP := Lib.hid hzp
  have HBEST := Lib.hid (fun (x : Value) (W : World) (hx : SlI W x ss) => refFewest_any ss x W hx hj0 res hres)
  have HAM := Lib.hid (fun (x : Value) (W : World) (hx : SlI W x ss) => Amounts_ok ss x W hx hj0 res hres)
  have HME := Lib.hid (fun (x : Value) (W : World) (hx : SlI W x ss) (a : Int) (he : errM ss a = 1) => Measure_err ss x a W hx (by omega) 1 he (by decide))
  have HFE := Lib.hid (fun (x : Value) (W : World) (hx : SlI W x ss) (a : Int) (he : errM ss a = 1) => Fewest_err ss x a W hx (by omega) 1 he (by decide))
  have HEM := Lib.hid (fun (a : Int) => show errM ss a = if 0 ≤ a ∧ a ≤ 12 then 0 else 1 by unfold errM; rw [if_pos hj0])
  have HMO := Lib.hid (fun (x : Value) (W : World) (hx : SlI W x ss) (a : Int) (he : errM ss a = 0) (rea : Sn × Option (List Int)) (hrea : srch (padF ss) (glA ss.length a) (ssF false ss.length) 28562 [0, 0, 0, 0] = some rea) => Measure_ok ss x a W hx (by omega) he hj0 rea hrea)
  have HFO := Lib.hid (fun (x : Value) (W : World) (hx : SlI W x ss) (a : Int) (he : errM ss a = 0) (rea : Sn × Option (List Int)) (hrea : srch (padF ss) (glA ss.length a) (ssF false ss.length) 28562 [0, 0, 0, 0] = some rea) => Fewest_ok ss x a W hx (by omega) he hj0 rea hrea)
  have HEX := Lib.hid (fun (a : Int) => show ∃ rea, srch (padF ss) (glA ss.length a) (ssF false ss.length) 28562 [0, 0, 0, 0] = some rea by
    have h := ex_srch hj0 hz (glA ss.length a) false
    rw [hzp] at h; exact h)
  have HN := Lib.hid hn
  clear hv h1 hj0 hzp hz hres hst hn
  go_enter Try.func8, Try.ntmps8
  go_wp2_with fail
  refine HT.out.mono ?_
  rintro e w1 ⟨xv, rfl, hx, hb1⟩
  have HX1 := Lib.hid (sli_own hx)
  have HB1 := Lib.hid hb1
  clear hx hb1 HT
  go_wp2_with fail
  refine (HBEST.out xv w1 HX1.out).mono ?_
  rintro e w2 ⟨bv, L, rfl, hbv, hk, hfits, hb2⟩
  have hb13 : (bstL res.1 L).length = 13 := by simp [bstL]
  obtain ⟨ba, bc, rfl, hbc, hbs⟩ := hbv
  obtain ⟨bb, bo, rfl, hbl, hbi⟩ := hbs.resolve_left (fun e => by rw [e] at hb13; simp at hb13)
  have HBI := Lib.hid (show ∀ m : Nat, m < 13 → w2.cell? ⟨bb, bo + m, none⟩ = some (.int .i64 (bst res.1 L m)) from fun m hm => by
    have := hbi.at_ m (by rw [hb13]; exact hm)
    rw [this]; simp [bstL])
  have HBL := Lib.hid hbl
  have HKEY := Lib.hid hk
  have HFT := Lib.hid hfits
  have HAB := Lib.hid (fun m => amt_best HJ.out hk hfits (fun f hf => by
    have : padF f ∈ res.1.map Prod.fst := by rw [hk, List.mem_reverse]; exact List.mem_map_of_mem hf
    obtain ⟨c, hc⟩ := Option.isSome_iff_exists.1 (lookA_key _ _ this)
    rw [kOf_some hc]; exact (HTR.out.knn hc).1) m)
  have HX2 := Lib.hid (HX1.out.grow hb2)
  have HB2 := Lib.hid (Below.andThen HB1.out hb2 (Nat.le_refl _))
  rw [hb13] at hbc ⊢
  clear hk hfits hb2 hb13 hbl hbi hbs HB1 HX1 HBEST
  go_wp2_with fail
  go_loopw [7, 8] (fun lv iv wr => ∃ k : Nat, k ≤ 13 ∧ iv = .int .i64 (k : Int) ∧ Hid (wr.ownsRow w2.heap.size 3 1 lv (wntL res.1 L k).length ((wntL res.1 L k).map encI) ∧ Below w2.heap.size w2 wr)) (fun _ iv _ => (13 - intOf iv).toNat)
  case atStart => exact ⟨0, by omega, rfl, Lib.hid ⟨World.ownsRow_nil _ _ _ _, Below.refl _ _⟩⟩
  case round =>
    obtain ⟨k, hk, rfl, HO⟩ := hrel
    have kw : IntKind.i64.wrap ((k : Int) + 1) = ((k + 1 : Nat) : Int) := by rw [i64_of _ (by omega) (by omega)]; omega
    by_cases hlt : k < 13
    · have hd : decide ((k : Int) < 13) = true := decide_eq_true (by omega)
      have c1 := below_at HO.out.2 HBL.out (HBI.out k hlt)
      have hsn : wntL res.1 L (k + 1) = wntL res.1 L k ++ (if decide (0 ≤ bst res.1 L k) = true then [(k : Int)] else []) := filter_snoc _ k
      have hll : (wntL res.1 L k).length ≤ 13 := by
        unfold wntL; rw [List.length_map]
        exact Nat.le_trans (List.length_filter_le _ _) (by rw [List.length_range]; omega)
      generalize bst res.1 L k = q at *
      by_cases hq : 0 ≤ q
      · have hdq : decide (0 ≤ q) = true := decide_eq_true hq
        rw [hdq] at hsn
        have HSN := Lib.hid hsn
        clear hsn
        generalize wntL res.1 L k = LL at *
        go_wp2_with (at_builtin; refine wpList_append_own_at _ rfl _ _ 22 rfl w2.heap.size 3 i0 (.int .i64 0) 1 8 Try.underlying22 hi hz0 hz1 hz2 rfl (by decide) _ _ _ rfl (HO.out.1.alloc _) _ 1 1 [encI (k : Int)] rfl rfl (cell_one_at _ _ _ _ (by simp)) (by simp [Value.oneCell', encI]) (by unfold maxLen; omega) (by omega) (Nat.le_trans HO.out.2.size (by simp)) ?_; intro v' w2' hown' hgrow hnil hat; have HR2 := Lib.hid hown'; have HBB2 := Lib.hid (own_below HO.out.1 HO.out.2 hgrow); clear hown' hgrow hnil hat)
        exact ⟨⟨k + 1, by omega, by simp, by rw [HSN.out]; exact Lib.hid ⟨by simpa using HR2.out, HBB2.out⟩⟩, by simp [intOf]; omega⟩
      · have hdq : decide (0 ≤ q) = false := decide_eq_false hq
        rw [hdq] at hsn
        have HSN := Lib.hid hsn
        clear hsn
        go_wp2_with fail
        exact ⟨⟨k + 1, by omega, by simp, by rw [HSN.out]; exact Lib.hid ⟨by simpa using HO.out.1, HO.out.2⟩⟩, by simp [intOf]; omega⟩
    · have hd : decide ((k : Int) < 13) = false := decide_eq_false (by omega)
      obtain rfl : k = 13 := by omega
      have e13 : ((13 : Nat) : Int) = 13 := rfl
      rw [e13] at hd ⊢
      clear e13
      have HWL := Lib.hid (show amtL res.1 ss.length 13 = wntL res.1 L 13 by
        unfold amtL wntL
        congr 1
        exact List.filter_congr fun m _ => HAB.out m)
      have hsl := sli_own HO.out.1
      have HSL := Lib.hid hsl
      have HBW := Lib.hid HO.out.2
      obtain ⟨wa, wc, rfl, _⟩ := hsl
      clear HO
      go_wp2_with fail
      refine (HAM.out xv wr (HX2.out.grow HBW.out)).mono ?_
      rintro e w3 ⟨p, rfl, hp, hb3⟩
      have hin := ints_sli (wntL res.1 L 13) (wntL res.1 L 13) p (.slice wa (wntL res.1 L 13).length wc) w3 (by rw [← HWL.out]; exact sli_own hp) (HSL.out.grow hb3) (by
        unfold wntL; rw [List.length_map]; exact Nat.le_trans (List.length_filter_le _ _) (by rw [List.length_range]; omega)) (by
        unfold wntL; rw [List.length_map]; exact Nat.le_trans (List.length_filter_le _ _) (by rw [List.length_range]; omega))
      simp only [decide_true] at hin
      have HIN := Lib.hid hin
      have HB3 := Lib.hid (Below.andThen HBW.out hb3 (Nat.le_refl _))
      generalize (wntL res.1 L 13).length = wl at *
      clear hp hb3 hin HAM HSL HBW HWL
      go_wp2_with fail
      refine HIN.out.mono ?_
      rintro e w4 ⟨rfl, hb4⟩
      have HB4 := Lib.hid (Below.andThen HB3.out hb4 (Nat.le_refl _))
      clear hb4 HIN HB3
      go_wp2_with fail
      go_loopw [1, 11] (fun av iv wx => ∃ (k : Nat) (a : Int), k ≤ 2 ∧ iv = .int .i64 (k : Int) ∧ av = .int .i64 a ∧ Hid (Below w2.heap.size w2 wx)) (fun _ iv _ => (2 - intOf iv).toNat)
      case atStart => exact ⟨0, am, by omega, rfl, rfl, HB4⟩
      case round =>
        clear HB4
        obtain ⟨k, a, hk, rfl, rfl, HB⟩ := hrel
        have kw : IntKind.i64.wrap ((k : Int) + 1) = ((k + 1 : Nat) : Int) := by rw [i64_of _ (by omega) (by omega)]; omega
        have mraw := m13_raw a
        by_cases hlt : k < 2
        · have hd : decide ((k : Int) < 2) = true := decide_eq_true (by omega)
          by_cases hin : 0 ≤ a ∧ a ≤ 12
          · have he : errM ss a = 0 := by rw [HEM.out, if_pos hin]
            obtain ⟨m, rfl⟩ : ∃ m : Nat, a = (m : Int) := ⟨a.toNat, by omega⟩
            obtain ⟨rea, hrea⟩ := HEX.out (m : Int)
            have hmt := meas_table HJ.out HRES.out hrea HKEY.out HFT.out
            have HM := Lib.hid (HMO.out xv wr (HX2.out.grow HB.out) (m : Int) he rea hrea)
            have HF := Lib.hid (fun (W : World) (hb : Below wr.heap.size wr W) => HFO.out xv W (HX2.out.grow (Below.andThen HB.out hb (Nat.le_refl _))) (m : Int) he rea hrea)
            have HMT := Lib.hid hmt
            have d1 : decide ((m : Int) < 0) = false := decide_eq_false (by omega)
            have d2 : decide (12 < (m : Int)) = false := decide_eq_false (by omega)
            have hm13 : m < 13 := by omega
            clear he hrea hmt
            go_wp2_with fail
            refine HM.out.mono ?_
            rintro e w5 ⟨s, rfl, hs, hb5⟩
            have HB5 := Lib.hid hb5
            have HS5 := Lib.hid (slp_own hs)
            obtain ⟨sa, sc, rfl, _⟩ := OwnP.open hs
            clear hb5 hs HM
            go_wp2_with fail
            refine (HF.out w5 HB5.out).mono ?_
            rintro e w6 ⟨rfl, hb6⟩
            have HB6 := Lib.hid (Below.andThen HB.out (Below.andThen HB5.out hb6 (Nat.le_refl _)) (Nat.le_refl _))
            have HS6 := Lib.hid (HS5.out.grow hb6)
            have c1 := below_at HB6.out HBL.out (HBI.out m hm13)
            have hmk := make_ints ss.length (by have := HN.out; omega) w6
            have HZ6 := Lib.hid (sli_zero w6 ss.length)
            have BZ6 := Lib.hid (Below.al (Below.refl w6.heap.size w6) (Nat.le_refl _) (.cells (List.replicate ss.length (.int .i64 0)).toArray 3))
            have HX6 := Lib.hid (HX2.out.grow (Below.andThen HB6.out BZ6.out (Nat.le_refl _)))
            have HPO := Lib.hid (fun (hl : (wayF rea).length ≤ 1000000) => refPour_any ss (List.replicate ss.length 0) (wayF rea) xv _ _ _ HX6.out HZ6.out (HS6.out.grow BZ6.out) HJ.out (zeros_fit HJ.out) hl)
            obtain ⟨xa, xc, hxe⟩ : ∃ xa xc, xv = .slice xa ss.length xc := by obtain ⟨a, c, h, _⟩ := HX2.out; exact ⟨a, c, h⟩
            clear hb6 HF HS5 HB5
            have hsp := HMT.out
            cases hok : rea.2.isSome with
            | false =>
              have hwn : wayF rea = [] := by
                have : rea.2 = none := by simpa using hok
                unfold wayF; rw [this]
              rw [hok, hwn] at hsp
              rw [hsp.1 rfl] at c1
              rw [hwn] at HPO ⊢
              have hpo := HPO.out (by simp)
              simp only [List.takeWhile_nil, List.length_nil, goF, Int.natCast_zero] at hpo ⊢
              have HPP := Lib.hid hpo
              clear hsp hpo hwn HPO
              subst hxe
              go_wp2_with fail
              simp only [List.toArray_replicate] at HPP BZ6 ⊢
              refine HPP.out.mono ?_
              rintro e w7 ⟨r, rfl, hr, hb7⟩
              have HB7 := Lib.hid (Below.andThen (Below.andThen HB6.out BZ6.out (Nat.le_refl _)) hb7 (Nat.le_refl _))
              clear hr hb7 HPP
              go_wp2_with fail
              exact ⟨⟨k + 1, _, by omega, by simp, rfl, HB7⟩, by simp [intOf]; omega⟩
            | true =>
              rw [hok] at hsp
              obtain ⟨e1, e2, e3⟩ := hsp.2.1 rfl
              have hbd := hsp.2.2
              rw [← e1] at c1 hbd
              have htw : (wayF rea).takeWhile (okP ss.length) = wayF rea := takeW_all e3
              have hpo := HPO.out (by omega)
              rw [htw] at hpo
              have HPP := Lib.hid hpo
              have HHAS := Lib.hid (fun (s : Value) (W : World) (hs : SlI W s (goF ss (List.replicate ss.length 0) (wayF rea))) => Has_any _ (m : Int) s W hs (by rw [goF_len]; simp; have := HN.out; omega))
              rw [decide_eq_true e2] at HHAS
              generalize (wayF rea).length = wn at *
              have hge : decide (0 ≤ (wn : Int)) = true := decide_eq_true (by omega)
              clear hsp hpo HPO htw e1 e2 e3 hbd hok
              subst hxe
              go_wp2_with fail
              simp only [List.toArray_replicate] at HPP BZ6 ⊢
              refine HPP.out.mono ?_
              rintro e w7 ⟨r, rfl, hr, hb7⟩
              have HB7 := Lib.hid (Below.andThen (Below.andThen HB6.out BZ6.out (Nat.le_refl _)) hb7 (Nat.le_refl _))
              have HH := Lib.hid (HHAS.out r w7 hr)
              clear hr hb7 HPP HHAS
              go_wp2_with fail
              refine HH.out.mono ?_
              rintro e w8 ⟨rfl, hb8⟩
              have HB8 := Lib.hid (Below.andThen HB7.out hb8 (Nat.le_refl _))
              clear hb8 HH
              go_wp2_with fail
              exact ⟨⟨k + 1, _, by omega, by simp, rfl, HB8⟩, by simp [intOf]; omega⟩
          · have he : errM ss a = 1 := by rw [HEM.out, if_neg hin]
            have HM := Lib.hid (HME.out xv wr (HX2.out.grow HB.out) a he)
            have HF := Lib.hid (fun (W : World) (hb : Below wr.heap.size wr W) => HFE.out xv W (HX2.out.grow (Below.andThen HB.out hb (Nat.le_refl _))) a he)
            clear he
            by_cases hneg : a < 0
            · have d1 : decide (a < 0) = true := decide_eq_true hneg
              go_wp2_with fail
              refine HM.out.mono ?_
              rintro e w5 ⟨rfl, hb5⟩
              have HB5 := Lib.hid hb5
              clear hb5 HM
              go_wp2_with fail
              refine (HF.out w5 HB5.out).mono ?_
              rintro e w6 ⟨rfl, hb6⟩
              have HB6 := Lib.hid (Below.andThen HB.out (Below.andThen HB5.out hb6 (Nat.le_refl _)) (Nat.le_refl _))
              clear hb6 HF HB5
              go_wp2_with fail
              exact ⟨⟨k + 1, _, by omega, by simp, rfl, HB6⟩, by simp [intOf]; omega⟩
            · have d1 : decide (a < 0) = false := decide_eq_false hneg
              have d2 : decide (12 < a) = true := decide_eq_true (by omega)
              go_wp2_with fail
              refine HM.out.mono ?_
              rintro e w5 ⟨rfl, hb5⟩
              have HB5 := Lib.hid hb5
              clear hb5 HM
              go_wp2_with fail
              refine (HF.out w5 HB5.out).mono ?_
              rintro e w6 ⟨rfl, hb6⟩
              have HB6 := Lib.hid (Below.andThen HB.out (Below.andThen HB5.out hb6 (Nat.le_refl _)) (Nat.le_refl _))
              clear hb6 HF HB5
              go_wp2_with fail
              exact ⟨⟨k + 1, _, by omega, by simp, rfl, HB6⟩, by simp [intOf]; omega⟩
        · have hd : decide ((k : Int) < 2) = false := decide_eq_false (by omega)
          obtain rfl : k = 2 := by omega
          go_wp2_with fail
          refine (awake_any _).mono ?_
          rintro e w9 ⟨rfl, hb9⟩
          have HB9 := Lib.hid (Below.andThen (Below.andThen HB2.out HB.out (Nat.le_refl _)) hb9 (Nat.le_refl _))
          clear hb9
          go_wp2_with fail
          go_ret
          exact ⟨rfl, HB9.out⟩
end Go.Proofs.Ytlamppplnojpbaa
