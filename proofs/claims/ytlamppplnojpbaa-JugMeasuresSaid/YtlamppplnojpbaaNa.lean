import Derived.Test.YtlamppplnojpbaaLz
import Derived.Test.YtlamppplnojpbaaLr
import Derived.Laws.AppendOwn
import Derived.ChangeKeysEq
import Derived.Maps.RangeWalk
import Derived.Maps.OwnIn
import Derived.Maps.AppendAt
import Derived.RangeFuncNested
import Derived.RangeFuncBound
import Derived.RangeFuncCalls
import Derived.RangeFuncLeaves
import Derived.Shelf.Abstract
import Derived.Shelf.RegionOpen
import Derived.WalkKit
import Derived.WalkMore
import Derived.OwnWalkIn
import Derived.TacticsInMore
import Derived.LoopNIn
import Derived.LoopIn
import Derived.WalkSpells
import Derived.WalkLawsBesides
import Derived.BigQuiet
import Derived.Deep.QuietTactic
import Derived.Lib.Hide
import Derived.Deep.RegionHeld3
import Derived.StillTailTactics
import Derived.Deep.LoopGhost
import Derived.Maps.OwnSet
import Derived.Lib.IndexAny
import Derived.Sort.QuietThIn
import Derived.Sort.QuietTacIn
import Derived.Sort.BigQuietIn
import Derived.Laws.OwnMore
namespace Go.Proofs.Ytlamppplnojpbaa
open Go.RowKit Go.Shelf
attribute [local go_sem] Oper.semAt_some
/-! the search's list has falling numbers of steps from its head on -/
def Desc (A : Sn) : Prop := A.Pairwise fun p q => q.2.k ≤ p.2.k
theorem visit_desc {P : List Int} {gl : List Int → Bool} {here : List Int} {cnt : Int} : ∀ (xs : List (Int × Int)) (s t : Sn × List (List Int)) (o : Option (List Int)), (∀ p ∈ s.1, p.2.k ≤ cnt) → Desc s.1 → visit P gl here cnt xs s = (t, o) → Desc t.1
  | [], s, t, o, _, hd, h => by rw [visit] at h; cases h; exact hd
  | x :: xs, s, t, o, hc, hd, h => by
    have hd2 : Desc ((afterF P here x.1 x.2, (⟨here, x.1, x.2, cnt⟩ : Cm)) :: s.1) := List.pairwise_cons.2 ⟨fun p hp => hc p hp, hd⟩
    have hc2 : ∀ p ∈ (afterF P here x.1 x.2, (⟨here, x.1, x.2, cnt⟩ : Cm)) :: s.1, p.2.k ≤ cnt := fun p hp => by
      rcases List.mem_cons.1 hp with rfl | hp
      · exact Int.le_refl _
      · exact hc p hp
    rw [visit] at h
    split at h
    · exact visit_desc xs s t o hc hd h
    · split at h
      · cases h; exact hd2
      · exact visit_desc xs _ t o hc2 hd2 h
theorem mem_look : ∀ {A : Sn}, (A.map Prod.fst).Nodup → ∀ p ∈ A, lookA A p.1 = some p.2
  | [], _, p, h => by cases h
  | q :: r, hn, p, h => by
    rw [List.map_cons, List.nodup_cons] at hn
    rw [lookA]
    rcases List.mem_cons.1 h with rfl | h
    · rw [if_pos rfl]
    · rw [if_neg (fun e => hn.1 (by rw [e]; exact List.mem_map_of_mem h))]
      exact mem_look hn.2 p h
theorem bfs_desc (P : List Int) (gl : List Int → Bool) (ss : List (Int × Int)) (S : List Int) : ∀ (M : Nat) (A : Sn) (qs : List (List Int)) (res : Sn × Option (List Int)), BInv P gl ss S A qs → (A.map Prod.fst).Nodup → Desc A → bfs P gl ss M A qs = some res → Desc res.1
  | 0, _, _, _, _, _, _, h => by simp [bfs] at h
  | M + 1, A, [], res, _, _, hd, h => by simp only [bfs, Option.some.injEq] at h; subst h; exact hd
  | M + 1, A, q :: qs, res, hi, hn, hd, h => by
    rw [bfs] at h
    rcases hv : visit P gl q (((lookA A q).map Cm.k).getD 0 + 1) ss (A, qs) with ⟨⟨A', qs'⟩, o⟩
    rw [hv] at h
    have hc : ∀ p ∈ A, p.2.k ≤ kOf A q + 1 := fun p hp => hi.near p.1 p.2 (mem_look hn p hp) q List.mem_cons_self
    have hd' := visit_desc ss (A, qs) (A', qs') o hc hd hv
    cases o with
    | some g => cases h; exact hd'
    | none => exact bfs_desc P gl ss S M A' qs' res (hi.next (visit_full _ _ _ _ hv)) (visit_nodup _ _ _ _ hn hv) hd' h
theorem srch_desc {P : List Int} {gl : List Int → Bool} {ss : List (Int × Int)} {S : List Int} {M : Nat} {res : Sn × Option (List Int)} (h : srch P gl ss M S = some res) : Desc res.1 := by
  unfold srch at h
  split at h
  · cases h; exact List.pairwise_singleton _ _
  · rename_i hg
    exact bfs_desc P gl ss S M _ _ res (BInv.start (by simpa using hg)) (by simp) (List.pairwise_singleton _ _) h
/-- the last one of the reference's list is farthest -/
theorem last_far {ss fs : List Int} {st : List (Int × Int)} {res : Sn × Option (List Int)} (h : srch (padF ss) glN st 28562 (padF fs) = some res) {L : List (List Int)} (hL : res.1.map Prod.fst = (L.map padF).reverse) {K : Int} (hK : FarK res.1 K) (hnd : (res.1.map Prod.fst).Nodup) (hl : 0 < L.length) :
    lookA res.1 (padF L[L.length - 1]) = some (cmOf res.1 (padF L[L.length - 1])) ∧ (cmOf res.1 (padF L[L.length - 1])).k = K := by
  have hd := srch_desc h
  obtain ⟨h1, F, c, h2, h3⟩ := hK
  generalize res.1 = A at *
  cases A with
  | nil => have := congrArg List.length hL; simp at this; omega
  | cons p r =>
    have e : p.1 = padF L[L.length - 1] := by
      have e0 := congrArg (fun l : List (List Int) => l[0]?) hL
      have hll : 0 < (L.map padF).reverse.length := by simpa using hl
      simp only [List.map_cons, List.getElem?_cons_zero] at e0
      rw [List.getElem?_eq_getElem hll, List.getElem_reverse, List.getElem_map] at e0
      simpa using Option.some.inj e0
    have hp := mem_look hnd p List.mem_cons_self
    rw [e] at hp
    have hcm : cmOf (p :: r) (padF L[L.length - 1]) = p.2 := by unfold cmOf; rw [hp]; rfl
    rw [hcm]
    refine ⟨hp, ?_⟩
    have a := h1 _ _ hp
    have b : c.k ≤ p.2.k := by
      rcases List.mem_cons.1 (lookA_mem _ _ _ h2) with e2 | e2
      · rw [← e2]; exact Int.le_refl _
      · exact (List.pairwise_cons.1 hd).1 _ e2
    omega
set_option maxRecDepth 100000 in
set_option maxHeartbeats 1000000 in
theorem JugReaches_any (zs ms : List Int) (cl : Bool) (v u : Value) (w : World) (hv : SlI w v zs) (hu : SlI w u ms) (h1 : zs.length ≤ 9223372036854775807) (h2 : ms.length ≤ 9223372036854775807) :
    Calls Try.prog 7 #[v, u, .bool cl] w fun e w' => e = .returned (.bool true) ∧ Below w.heap.size w w' := by
  have HT := Lib.hid (tame_any zs v 3 (by omega) w hv h1)
  have hj0 := tameF_jugs zs 3 (by omega)
  have hF := fun (x : Value) (W : World) (hx : SlI W x (tameF zs 3)) (hb : Below w.heap.size w W) => filled_any (tameF zs 3) ms x u W hx (hu.grow hb) hj0 h2
  have hfit0 := filF_fits ms hj0
  generalize tameF zs 3 = ss at *
  generalize filF ss ms = fs at *
  have hn := jugsB_len hj0
  obtain ⟨hfit, hfl, hf4⟩ := fits_pad hj0 hfit0
  obtain ⟨res, hres⟩ : ∃ res, srch (padF ss) glN (ssF cl ss.length) 28562 (padF fs) = some res := srch_ends _ _ (lsF cl) (mF cl ss.length) (lsF_ok cl) (by have := mF_ok cl ss.length; omega) _ hfit
  have ht := (srch_tree _ _ (lsF cl) (mF cl ss.length) (lsF_ok cl) (by have := mF_ok cl ss.length; omega) _ hfit _ res hres).1
  have hsz : res.1.length ≤ 28561 := ht.size
  have HTR := Lib.hid ht
  have HRES := Lib.hid hres
  have HJ := Lib.hid hj0
  have HFI := Lib.hid hfit0
  have HR := Lib.hid (fun (x y : Value) (W : World) (hx : SlI W x ss) (hy : SlI W y fs) => Reached_ok ss fs x y cl W hx hy hj0 hfit0 res hres)
  have HFA := Lib.hid (fun (x y : Value) (W : World) (hx : SlI W x ss) (hy : SlI W y fs) => Farthest_ok ss fs x y cl W hx hy hj0 hfit0 res hres)
  have HALL := Lib.hid (fun (x : Value) (g c : Nat) (W : World) (hx : SlI W x ss) (hg : g < W.heap.size) (hy : IntsAt W g 0 fs) (hc : fs.length ≤ c) => refAll_any ss fs x g c cl W hx hg hy hc hj0 hfit0 res hres)
  have HF := Lib.hid hF
  have hne : fs ≠ [] := fun e => by rw [e] at hfl; simp at hfl; omega
  have HN := Lib.hid hn
  clear hv hu h1 h2 hj0 hfit0 hF hres ht hfit hfl hf4 hn
  go_enter Try.func7, Try.ntmps7
  go_wp2_with fail
  refine HT.out.mono ?_
  rintro e w1 ⟨xv, rfl, hx, hb1⟩
  have HX1 := Lib.hid (sli_own hx)
  have HB1 := Lib.hid hb1
  clear hx hb1 HT
  go_wp2_with fail
  refine (HF.out xv w1 HX1.out HB1.out).mono ?_
  rintro e w2 ⟨fv, rfl, hf, hb2⟩
  obtain ⟨gf, cf, rfl, hgf, hfi⟩ := own_ints hf hne
  have hcf : fs.length ≤ cf := by
    rcases hf.2 with ⟨e, _⟩ | ⟨g, cap, cur, e, _, _, h, _⟩
    · cases e
    · cases e
      have := hf.1; rw [List.length_map] at this; omega
  have HF2 := Lib.hid (And.intro (sli_own hf) (And.intro hgf (And.intro hfi hcf)))
  have HX2 := Lib.hid (HX1.out.grow hb2)
  have HB2 := Lib.hid (Below.andThen HB1.out hb2 (Nat.le_refl _))
  clear hf hb2 HF HX1 HB1 hgf hfi hcf
  go_wp2_with fail
  refine (HR.out xv _ w2 HX2.out HF2.out.1).mono ?_
  rintro e w3 ⟨rfl, hb3⟩
  have HF3 := Lib.hid (HF2.out.1.grow hb3)
  have HX3 := Lib.hid (HX2.out.grow hb3)
  have HB23 := Lib.hid hb3
  clear hb3 HR
  go_wp2_with fail
  refine (HFA.out xv _ w3 HX3.out HF3.out).mono ?_
  rintro e w4 ⟨K, rfl, hK, hb4⟩
  have HK := Lib.hid hK
  have HB24 := Lib.hid (Below.andThen HB23.out hb4 (Nat.le_refl _))
  have HX4 := Lib.hid (HX3.out.grow hb4)
  clear hb4 hK HFA HX3 HF3 HB23
  go_wp2_with fail
  refine (HALL.out xv gf cf w4 HX4.out (Nat.lt_of_lt_of_le HF2.out.2.1 HB24.out.size) (HF2.out.2.2.1.below HB24.out HF2.out.2.1) HF2.out.2.2.2).mono ?_
  rintro e w5 ⟨s1, s2, L, rfl, hs1, hs2, hk, hfits, hb5⟩
  have hll : res.1.length = L.length := by have := congrArg List.length hk; simpa using this
  have hL0 : 0 < L.length := by
    obtain ⟨_, F, c, h, _⟩ := HK.out
    have := List.length_pos_of_mem (lookA_mem _ _ _ h); omega
  have hlast := last_far HRES.out hk HK.out HTR.out.nodup hL0
  obtain ⟨m1, hm1⟩ : ∃ m1, L.length = m1 + 1 := ⟨L.length - 1, by omega⟩
  obtain ⟨r, cap, rfl, _⟩ := hs2.open hL0
  obtain ⟨lu, hcell, hent⟩ := hs2.cell m1 (by omega)
  have hlm : L[L.length - 1] = L[m1] := by congr 1; omega
  rw [hlm] at hlast
  have hfl := hfits L[m1] (List.getElem_mem (by omega))
  have hp := (fits_pad HJ.out hfl).1
  have HX5 := Lib.hid (HX4.out.grow hb5)
  have hcode := Code_any ss L[m1] xv lu w5 HX5.out hent.sli HJ.out hfl
  rw [← cdF_pad HN.out.2] at hcode
  have hcb := cdF_bd HJ.out hp
  have htl := tab_look HJ.out hp res.1 (HTR.out.fits)
  rw [hlast.1] at htl
  simp only [Option.map_some, Option.getD_some, hlast.2] at htl
  obtain ⟨d, hd⟩ : ∃ d : Nat, cdF ss (padF L[m1]) = (d : Int) := ⟨(cdF ss (padF L[m1])).toNat, by omega⟩
  rw [hd] at hcode htl
  obtain ⟨N, hN⟩ : ∃ N : Nat, prodR ss ss.length = (N : Int) := ⟨(prodR ss ss.length).toNat, by omega⟩
  rw [hN, Int.toNat_natCast] at hs1
  have hdN : d < N := by omega
  have htg := tabL_get ss res.1 N d hdN
  rw [htl] at htg
  obtain ⟨a1, c1, rfl, hc1, hs1⟩ := hs1
  rw [tabL_len] at hc1 ⊢
  have hlen := tabL_len ss res.1 N
  obtain ⟨bt, ot, rfl, hbt, hti⟩ := hs1.resolve_left (fun e => by rw [e] at hlen; simp at hlen; omega)
  have hct := hti.at_ d (by rw [hlen]; exact hdN)
  rw [← getD_lt (by rw [hlen]; exact hdN), htg] at hct
  have HCO := Lib.hid hcode
  have HCT := Lib.hid hct
  have HBT := Lib.hid hbt
  have HB5 := Lib.hid (Below.andThen (Below.andThen HB2.out HB24.out (Nat.le_refl _)) hb5 (Nat.le_refl _))
  have hmw : IntKind.i64.wrap ((L.length : Int) - 1) = (m1 : Int) := by rw [i64_of _ (by omega) (by omega)]; omega
  have hmL : m1 < L.length := by omega
  have hq : decide ((L.length : Int) = (L.length : Int)) = true := by simp
  rw [hll]
  have HM1 := Lib.hid hm1
  clear hs2 hk hfits hb5 hll hlast hlm hfl hp hcode hcb htl hd hN htg hs1 hti hct hbt hlen hm1 hent HB2 HB24 HF2 HX4 HALL
  go_wp2_with fail
  refine HCO.out.mono ?_
  rintro e w6 ⟨rfl, hb6⟩
  have hct6 := below_at hb6 HBT.out HCT.out
  have HB6 := Lib.hid (Below.andThen HB5.out hb6 (Nat.le_refl _))
  clear hb6 HCO
  go_wp2_with fail
  refine (awake_any w6).mono ?_
  rintro e w7 ⟨rfl, hb7⟩
  have HB7 := Lib.hid (Below.andThen HB6.out hb7 (Nat.le_refl _))
  clear hb7
  go_wp2_with fail
  go_ret
  exact ⟨rfl, HB7.out⟩
end Go.Proofs.Ytlamppplnojpbaa
