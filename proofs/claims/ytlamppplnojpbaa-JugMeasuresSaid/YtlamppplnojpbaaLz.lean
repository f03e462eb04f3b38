import Derived.Test.YtlamppplnojpbaaLy
import Derived.Test.YtlamppplnojpbaaLk
import Derived.Laws.AppendOwn
import Derived.ChangeKeysEq
import Derived.Maps.RangeWalk
import Derived.Maps.OwnIn
import Derived.Maps.AppendAt
import Derived.RangeFuncNested
import Derived.RangeFuncBound
import Derived.RangeFuncCalls
import Derived.RangeFuncLeaves
import Derived.Shelf.Abstract
import Derived.Shelf.RegionOpen
import Derived.WalkKit
import Derived.WalkMore
import Derived.OwnWalkIn
import Derived.TacticsInMore
import Derived.LoopNIn
import Derived.LoopIn
import Derived.WalkSpells
import Derived.WalkLawsBesides
import Derived.BigQuiet
import Derived.Deep.QuietTactic
import Derived.Lib.Hide
import Derived.Deep.RegionHeld3
import Derived.StillTailTactics
import Derived.Deep.LoopGhost
import Derived.Maps.OwnSet
import Derived.Lib.IndexAny
import Derived.Sort.QuietThIn
import Derived.Sort.QuietTacIn
import Derived.Sort.BigQuietIn
import Derived.Laws.OwnMore
namespace Go.Proofs.Ytlamppplnojpbaa
open Go.RowKit Go.Shelf
attribute [local go_sem] Oper.semAt_some
theorem info22 : (Try.prog.info? 22).map (fun i => (i.zero, i.size, i.bytes)) = some (some (.slice none 0 0), 1, 24) := by kernel_rfl
theorem neg_row (N i : Nat) (h : i < N) : (List.replicate i (-1 : Int) ++ List.replicate (N - i) 0).set i (-1) = List.replicate (i + 1) (-1) ++ List.replicate (N - (i + 1)) 0 := by
  rw [List.set_append_right _ _ (by simp), List.length_replicate, Nat.sub_self, show N - i = (N - (i + 1)) + 1 by omega, List.replicate_succ, List.set_cons_zero, List.replicate_succ', List.append_assoc]; rfl
/-- the loop's state in memory -/
structure AllR (w : World) (ss : List Int) (N : Nat) (lv : Value) (A : Sn) (L : List (List Int)) (wr : World) : Prop where
  bl : Below w.heap.size w wr
  out : wr.ownsRow w.heap.size 3 1 (.slice (some ⟨w.heap.size, 0, none⟩) N N) N ((tabL ss A N).map encI)
  l : LstW w.heap.size w.heap.size wr lv L
theorem AllR.grow {w : World} {ss : List Int} {N : Nat} {lv : Value} {A : Sn} {L : List (List Int)} {W W' : World} (h : AllR w ss N lv A L W) (hb : Below W.heap.size W W') : AllR w ss N lv A L W' :=
  ⟨Below.andThen h.bl hb (Nat.le_refl _), own_grow h.out hb, h.l.grow hb⟩
theorem all_start (w : World) (ss fs : List Int) (N c : Nat) (u : Value) (W : World) (hb : Below w.heap.size w W) (ho : W.ownsRow w.heap.size 3 1 (.slice (some ⟨w.heap.size, 0, none⟩) N N) N ((List.replicate N (-1)).map encI))
    (hc : cdF ss (padF fs) = (c : Int)) (he : Ent w.heap.size w.heap.size W u fs) (_hw : w.heap.size < W.heap.size) : AllR w ss N (.slice (some ⟨W.heap.size, 0, none⟩) 1 1) [(padF fs, c0)] [fs] ((W.setCell ⟨w.heap.size, c, none⟩ (.int .i64 0)).alloc (.cells #[u] 22)) := by
  have h1 := own_put ho c 0
  have h2 : (W.setCell ⟨w.heap.size, c, none⟩ (.int .i64 0)).heap.size = W.heap.size := by simp [World.setCell]
  have h3 : (tabL ss [(padF fs, c0)] N) = (List.replicate N (-1)).set c 0 := by
    rw [← tabL_nil ss N, ← tabL_set (padF fs) c0 [] N (by omega), hc]; rfl
  have b1 : Below w.heap.size w (W.setCell ⟨w.heap.size, c, none⟩ (.int .i64 0)) := hb.setCell (p := ⟨w.heap.size, c, none⟩) (Nat.le_refl _) _
  have e1 := he.kept (grown_set W ⟨w.heap.size, c, none⟩ (.int .i64 0)) (Nat.le_refl _) (.inl rfl)
  rw [← h3] at h1
  generalize W.setCell ⟨w.heap.size, c, none⟩ (.int .i64 0) = W1 at *
  rw [← h2]
  have g1 := Below.al (Below.refl W1.heap.size W1) (Nat.le_refl _) (.cells #[u] 22)
  exact ⟨Below.andThen b1 g1 (Nat.le_refl _), own_grow h1 g1, LstW.one W1 w.heap.size u fs b1.size e1⟩
theorem AllR.lt {w : World} {ss : List Int} {N : Nat} {lv : Value} {A : Sn} {L : List (List Int)} {W : World} (h : AllR w ss N lv A L W) : w.heap.size < W.heap.size := (h.out.lt _ rfl).2
theorem AllR.push {w : World} {ss : List Int} {N : Nat} {lv : Value} {A : Sn} {L : List (List Int)} {W : World} (h : AllR w ss N lv A L W) (hL : 0 < L.length) {G : List Int} {d : Nat} (hd : cdF ss (padF G) = (d : Int)) (c : Cm) {gu : Value} (hgu : Ent w.heap.size w.heap.size W gu G)
    {n1 m : Nat} {vv : Value} {xs : List Value} (ho : W.ownsRow n1 48 2 vv m xs) :
    ∃ us, (W.setCell ⟨w.heap.size, d, none⟩ (.int .i64 c.k)).ownsRow w.heap.size 22 1 lv L.length us ∧ us.length = L.length ∧ Below w.heap.size w (W.setCell ⟨w.heap.size, d, none⟩ (.int .i64 c.k)) ∧
      ∀ (o : Obj) (v' : Value) (W' : World), W'.ownsRow w.heap.size 22 1 v' (L.length + 1) (us ++ [gu]) → ((W.setCell ⟨w.heap.size, d, none⟩ (.int .i64 c.k)).alloc o).grownBy W' lv.ownBlock → AllR w ss N v' ((padF G, c) :: A) (L ++ [G]) W' ∧ W'.ownsRow n1 48 2 vv m xs := by
  have g1 := grown_set W ⟨w.heap.size, d, none⟩ (.int .i64 c.k)
  have b1 : Below w.heap.size w (W.setCell ⟨w.heap.size, d, none⟩ (.int .i64 c.k)) := h.bl.setCell (p := ⟨w.heap.size, d, none⟩) (Nat.le_refl _) _
  have o1 := own_put h.out d c.k
  have l1 := h.l.stored (Nat.le_refl _) h.out g1
  have e1 := hgu.kept g1 (Nat.le_refl _) (.inl rfl)
  have y1 := ho.kept g1 (own_differ ho h.out (by decide))
  have hs : (tabL ss A N).set d c.k = tabL ss ((padF G, c) :: A) N := by
    rw [← tabL_set (padF G) c A N (by omega), hd]; rfl
  rw [hs] at o1
  generalize W.setCell ⟨w.heap.size, d, none⟩ (.int .i64 c.k) = W1 at *
  obtain ⟨us, h1, h2, h3⟩ := l1
  refine ⟨us, h1, h2, b1, fun o v' W' hown hg => ?_⟩
  have bal : Below W1.heap.size W1 (W1.alloc o) := Below.al (Below.refl _ _) (Nat.le_refl _) _
  refine ⟨⟨?_, ?_, LstW.push h1 h2 h3 (Nat.le_refl _) e1 hown hg hL⟩, ?_⟩
  · exact (Below.andThen b1 bal (Nat.le_refl _)).grown hg (Below.andThen b1 bal (Nat.le_refl _)).size (fun k e => (h1.lt k e).1)
  · exact (own_grow o1 bal).kept hg (own_differ (own_grow o1 bal) (own_grow h1 bal) (by decide))
  · exact (own_grow y1 bal).kept hg (own_differ (own_grow y1 bal) (own_grow h1 bal) (by decide))
/-- the numbers of steps are small -/
def KB (A : Sn) : Prop := ∀ p ∈ A, 0 ≤ p.2.k ∧ p.2.k < (A.length : Int)
theorem KB.look {A : Sn} (h : KB A) {F : List Int} {c : Cm} (e : lookA A F = some c) : 0 ≤ c.k ∧ c.k < (A.length : Int) := h _ (lookA_mem A F c e)
theorem KB.cons {A : Sn} (h : KB A) {F : List Int} {c : Cm} {f : List Int} (hk : (lookA A f).isSome = true) (e : c.k = kOf A f + 1) : KB ((F, c) :: A) := fun p hp => by
  obtain ⟨c', hc'⟩ := Option.isSome_iff_exists.1 hk
  have := h.look hc'
  rw [kOf_some hc'] at e
  rcases List.mem_cons.1 hp with rfl | hp
  · simp only [List.length_cons]; omega
  · have := h p hp; simp only [List.length_cons]; omega
/-- a new filling of the reference's step -/
def EntN (n0 : Nat) (G : List Int) : Value → World → Prop := fun v W => ∃ W0 : World, n0 < W0.heap.size ∧ ∃ k, W.ownsRow W0.heap.size 3 1 v k (G.map encI)
theorem EntN.stab (n0 : Nat) (G : List Int) : ∀ (v : Value) (W W' : World), EntN n0 G v W → Below W.heap.size W W' → EntN n0 G v W' := fun _ _ _ ⟨W0, h, k, ho⟩ hb => ⟨W0, h, k, own_grow ho hb⟩
theorem EntN.ent {n0 : Nat} {G : List Int} {v : Value} {W : World} (h : EntN n0 G v W) (hG : G ≠ []) : Ent n0 n0 W v G := by
  obtain ⟨W0, h1, k, ho⟩ := h
  exact Ent.new ho hG h1
def TupN (n0 : Nat) (G : List Int) : Value → World → Prop := fun v W => ∃ x, v = .tuple #[x, .bool true] ∧ EntN n0 G x W
theorem TupN.stab (n0 : Nat) (G : List Int) : ∀ (v : Value) (W W' : World), TupN n0 G v W → Below W.heap.size W W' → TupN n0 G v W' := fun _ _ _ ⟨x, h1, h2⟩ hb => ⟨x, h1, EntN.stab _ _ _ _ _ h2 hb⟩
set_option maxRecDepth 100000 in
set_option maxHeartbeats 800000 in
theorem refAll_any (ss fs : List Int) (v : Value) (gf cf : Nat) (cl : Bool) (w : World) (hv : SlI w v ss) (hg : gf < w.heap.size) (hu : IntsAt w gf 0 fs) (hc : fs.length ≤ cf) (hj : jugsB ss = true) (hf : fitsB ss fs = true) (res : Sn × Option (List Int)) (hres : srch (padF ss) glN (ssF cl ss.length) 28562 (padF fs) = some res) :
    Calls Try.prog 36 #[v, .slice (some ⟨gf, 0, none⟩) fs.length cf, .bool cl] w fun e w' => ∃ s1 s2 L, e = .returned (.tuple #[s1, s2]) ∧ SlI w' s1 (tabL ss res.1 (prodR ss ss.length).toNat) ∧ LstW w.heap.size w.heap.size w' s2 L ∧ res.1.map Prod.fst = (L.map padF).reverse ∧ (∀ f ∈ L, fitsB ss f = true) ∧ Below w.heap.size w w' := by
  obtain ⟨i0, hi, hz0, hz1, hz2⟩ := info_parts info22
  obtain ⟨hfit, hfl, hf4⟩ := fits_pad hj hf
  have hn := jugsB_len hj
  have hcd := cdF_bd hj hfit
  have HPB := Lib.hid (fun i (hi : i ≤ ss.length) => show 1 ≤ prodR ss i ∧ prodR ss i ≤ 28561 by
    have h1 := cod_bd (ss := ss) (fs := padF fs) (fun i hi => ⟨jugs_in hj i hi, fit_in hn.2 hfit i hi⟩) i hi
    have h2 : (13 : Int) ^ i ≤ 28561 := by
      rcases (show i = 0 ∨ i = 1 ∨ i = 2 ∨ i = 3 ∨ i = 4 by omega) with e | e | e | e | e <;> rw [e] <;> decide
    omega)
  have HJI := Lib.hid (jugs_in hj)
  obtain ⟨N, hN⟩ : ∃ N : Nat, prodR ss ss.length = (N : Int) := ⟨(prodR ss ss.length).toNat, by omega⟩
  obtain ⟨c, hcc⟩ : ∃ c : Nat, cdF ss (padF fs) = (c : Int) := ⟨(cdF ss (padF fs)).toNat, by omega⟩
  have HST0 := Lib.hid (SrR.start hres hf)
  have HRL := Lib.hid (show res.1.length ≤ 28561 from (srch_tree _ _ (lsF cl) (mF cl ss.length) (lsF_ok cl) (by have := mF_ok cl ss.length; omega) _ hfit _ res hres).1.size)
  have HSS := Lib.hid ((steps_same cl ss.length hn.1 hn.2).2)
  have HPD := Lib.hid (fun (f : List Int) (hl : f.length = ss.length) a b => pad_afterF ss f hl hn.2 a b)
  have HCODE := Lib.hid (fun (W : World) (hb : Below w.heap.size w W) (f : List Int) (u : Value) (hu : SlI W u f) (hff : fitsB ss f = true) => Code_any ss f v u W (hv.grow hb) hu hj hff)
  have HENT := Lib.hid (show Ent w.heap.size w.heap.size w (.slice (some ⟨gf, 0, none⟩) fs.length cf) fs from ⟨gf, cf, rfl, hc, hu, hg, .inl hg⟩)
  have HCP := Lib.hid (fun (f : List Int) => cdF_pad (ss := ss) (fs := f) hn.2)
  have HNE := Lib.hid hN
  have HCC := Lib.hid hcc
  have HJ := Lib.hid hj
  have HF := Lib.hid hf
  have HV := Lib.hid hv
  have hcN : c < N := by omega
  have hN2 : N ≤ 28561 := by have := HPB.out _ (Nat.le_refl _); omega
  obtain ⟨va, vc, hve, _, hvs⟩ := hv
  subst hve
  have HVS := Lib.hid hvs
  have hmk := make_ints N (by omega)
  have HMK := Lib.hid hmk
  clear hcc hN hcd hres hu hg hc hj hf hfit hf4 hvs hmk hfl
  go_enter Try.func36, Try.ntmps36
  go_wp2_with fail
  go_loopw [8, 9] (fun sv iv wr => ∃ i : Nat, i ≤ ss.length ∧ iv = .int .i64 (i : Int) ∧ sv = .int .i64 (prodR ss i) ∧ Hid (wr.heap.size = w.heap.size ∧ Below w.heap.size w wr)) (fun _ iv _ => (ss.length - intOf iv).toNat)
  case atStart => exact ⟨0, by omega, rfl, rfl, Lib.hid ⟨rfl, Below.refl _ _⟩⟩
  case round =>
    obtain ⟨i, hi', rfl, hsv, HB⟩ := hrel
    have kw : IntKind.i64.wrap ((i : Int) + 1) = ((i + 1 : Nat) : Int) := by rw [i64_of _ (by omega) (by omega)]; omega
    by_cases hlt : i < ss.length
    · have hd : decide ((i : Int) < (ss.length : Int)) = true := decide_eq_true (by omega)
      have hdn : decide (i < ss.length) = true := decide_eq_true hlt
      obtain ⟨b, o, rfl, hbl, hi1⟩ : ∃ b o, va = some ⟨b, o, none⟩ ∧ b < w.heap.size ∧ IntsAt w b o ss := HVS.out.resolve_left (fun e => by rw [e] at hlt; simp at hlt)
      have k1 := below_at HB.out.2 hbl (hi1.at_ i hlt)
      rw [← getD_lt hlt] at k1
      have hp := HPB.out i (by omega)
      have hp2 := HPB.out (i + 1) (by omega)
      have hs := HJI.out i hlt
      have HPS := Lib.hid (show prodR ss (i + 1) = prodR ss i * (ss.getD i 0 + 1) from rfl)
      rw [prodR] at hp2
      subst hsv
      clear hi1
      generalize prodR ss i = p at *
      generalize ss.getD i 0 = s at *
      have n1 : IntKind.i64.wrap (s + 1) = s + 1 := i64_of _ (by omega) (by omega)
      have n2 : IntKind.i64.wrap (p * (s + 1)) = p * (s + 1) := i64_of _ (by omega) (by omega)
      clear hp2
      go_wp2_with fail
      exact ⟨⟨i + 1, by omega, by simp, by rw [HPS.out], HB⟩, by simp [intOf]; omega⟩
    · have hd : decide ((i : Int) < (ss.length : Int)) = false := decide_eq_false (by omega)
      have hdn : decide (i < ss.length) = false := decide_eq_false hlt
      obtain rfl : i = ss.length := by omega
      rw [HNE.out] at hsv
      subst hsv
      have HMK2 := HMK.out wr
      have HSZ := Lib.hid HB.out.1
      have ho0 : (wr.alloc (.cells (List.replicate N (.int .i64 0)).toArray 3)).ownsRow w.heap.size 3 1 (.slice (some ⟨w.heap.size, 0, none⟩) N N) N ((List.replicate 0 (-1 : Int) ++ List.replicate (N - 0) 0).map encI) := by
        have h := World.ownsRow_lit (base := w.heap.size) (e := 3) (size := 1) wr (List.replicate N (.int .i64 0)).toArray N (by rw [HSZ.out]; exact Nat.le_refl _) (by unfold maxLen; omega) (by simp)
        rw [HSZ.out] at h
        simpa [encI] using h
      have hb0 : Below w.heap.size w (wr.alloc (.cells (List.replicate N (.int .i64 0)).toArray 3)) := HB.out.2.alloc (by rw [HSZ.out]; exact Nat.le_refl _) _
      have hz0' : (wr.alloc (.cells (List.replicate N (.int .i64 0)).toArray 3)).heap.size = w.heap.size + 1 := by rw [size_al, HSZ.out]
      have H0 := Lib.hid (And.intro ho0 (And.intro hb0 hz0'))
      clear ho0 hb0 hz0'
      go_wp2_with fail
      simp only [HSZ.out, List.toArray_replicate] at H0 ⊢
      generalize wr.alloc (.cells (Array.replicate N (.int .i64 0)) 3) = W0 at *
      clear HMK2 HSZ HB
      go_loopw [11] (fun iv wx => ∃ i : Nat, i ≤ N ∧ iv = .int .i64 (i : Int) ∧ Hid (wx.ownsRow w.heap.size 3 1 (.slice (some ⟨w.heap.size, 0, none⟩) N N) N ((List.replicate i (-1 : Int) ++ List.replicate (N - i) 0).map encI) ∧ Below w.heap.size w wx ∧ wx.heap.size = w.heap.size + 1)) (fun iv _ => (N - intOf iv).toNat)
      case atStart => exact ⟨0, by omega, rfl, H0⟩
      case round =>
        clear H0
        obtain ⟨i, hi', rfl, HO⟩ := hrel
        have kw : IntKind.i64.wrap ((i : Int) + 1) = ((i + 1 : Nat) : Int) := by rw [i64_of _ (by omega) (by omega)]; omega
        by_cases hlt : i < N
        · have hd : decide ((i : Int) < (N : Int)) = true := decide_eq_true (by omega)
          have hdn : decide (i < N) = true := decide_eq_true hlt
          obtain ⟨k1, k2⟩ := own_cell HO.out.1 i hlt
          have HO2 := Lib.hid (own_put HO.out.1 i (-1))
          rw [neg_row N i hlt] at HO2
          go_wp2_with fail
          exact ⟨⟨i + 1, by omega, by simp, Lib.hid ⟨HO2.out, HO.out.2.1.setCell (p := ⟨w.heap.size, i, none⟩) (Nat.le_refl _) _, by simpa [World.setCell] using HO.out.2.2⟩⟩, by simp [intOf]; omega⟩
        · have hd : decide ((i : Int) < (N : Int)) = false := decide_eq_false (by omega)
          have hdn : decide (i < N) = false := decide_eq_false hlt
          obtain rfl : N = i := by omega
          have HON := Lib.hid (show wr.ownsRow w.heap.size 3 1 (.slice (some ⟨w.heap.size, 0, none⟩) N N) N ((List.replicate N (-1 : Int)).map encI) by
            have := HO.out.1
            rw [Nat.sub_self, List.replicate_zero, List.append_nil] at this; exact this)
          have hent := HENT.out.grow (bo := w.heap.size) (W := w) (W' := wr) HO.out.2.1
          have hcode := HCODE.out wr HO.out.2.1 fs _ hent.sli HF.out
          rw [← HCP.out fs, HCC.out] at hcode
          have HC1 := Lib.hid hcode
          have HE1 := Lib.hid hent
          clear hent hcode
          go_wp2_with fail
          refine HC1.out.mono ?_
          rintro e w2 ⟨rfl, hb2⟩
          have HO2 := Lib.hid (own_grow HON.out hb2)
          have HB2 := Lib.hid (Below.andThen HO.out.2.1 hb2 (Nat.le_refl _))
          have HE2 := Lib.hid (HE1.out.grow hb2)
          have hw2 : w.heap.size < w2.heap.size := by have := HO.out.2.2; have := hb2.size; omega
          have HALL := Lib.hid (all_start w ss fs N c _ w2 HB2.out HO2.out HCC.out HE2.out hw2)
          obtain ⟨k1, k2⟩ := own_cell HO2.out c hcN
          have k3 : (List.replicate N (-1 : Int)).getD c 0 = -1 := by simp [List.getD, hcN]
          rw [k3] at k1
          clear k3 hb2 HC1 HE1
          go_wp2_with fail
          generalize (w2.setCell ⟨w.heap.size, c, none⟩ (.int .i64 0)).alloc (.cells #[.slice (some ⟨gf, 0, none⟩) fs.length cf] 22) = W3 at *
          generalize w2.heap.size = g2 at *
          clear k1 k2 hw2 HO2 HB2 HE2 HO HON
          go_loopw [12, 13] (fun lv iv wx => ∃ (k : Nat) (A : Sn) (L : List (List Int)), k ≤ L.length ∧ 0 < L.length ∧ iv = .int .i64 (k : Int) ∧ Hid (AllR w ss N lv A L wx ∧ SrR ss (ssF cl ss.length) res k A L ∧ KB A)) (fun _ iv _ => (res.1.length - intOf iv).toNat)
          case atStart => exact ⟨0, _, _, by simp, by simp, rfl, Lib.hid ⟨HALL.out, HST0.out, fun p hp => by rw [List.mem_singleton.1 hp]; exact ⟨Int.le_refl _, by simp [c0]⟩⟩⟩
          case round =>
            clear HALL HST0
            obtain ⟨k, A, L, hk, hL0, rfl, HR⟩ := hrel
            have hLr := HR.out.2.1.len
            obtain ⟨r, cap, rfl, hcap⟩ := HR.out.1.l.open hL0
            have hkb : (k : Int) < 1000000 := by have := HRL.out; omega
            have kw : IntKind.i64.wrap ((k : Int) + 1) = ((k + 1 : Nat) : Int) := by rw [i64_of _ (by omega) (by omega)]; omega
            by_cases hlt : k < L.length
            · have hd : decide ((k : Int) < (L.length : Int)) = true := decide_eq_true (by omega)
              have hdn : decide (k < L.length) = true := decide_eq_true hlt
              obtain ⟨u, hcell, hent⟩ := HR.out.1.l.cell k hlt
              have hff : fitsB ss L[k] = true := HR.out.2.1.fits _ (List.getElem_mem hlt)
              have HI0 := Lib.hid (HR.out.2.1.enter (ys := stepsF (padF ss) (padF L[k]) (ssF cl ss.length)) hlt)
              obtain ⟨f, hfe⟩ : ∃ f, L[k] = f := ⟨_, rfl⟩
              rw [hfe] at hent hff HI0
              have HFF := Lib.hid hff
              obtain ⟨b, cb, rfl, hcb, hbi, hbl, hbo⟩ := hent
              have HEN := Lib.hid (show Ent w.heap.size w.heap.size wr (.slice (some ⟨b, 0, none⟩) f.length cb) f from ⟨b, cb, rfl, hcb, hbi, hbl, hbo⟩)
              have hstp := refSteps_any ss f (.slice va ss.length vc) b cb cl wr (HV.out.grow HR.out.1.bl) hbl hbi hcb HJ.out hff
              have hyl := refL_len ss f cl (ss.length + 1) (ss.length + 1) 0 (by omega) (by omega) (by omega)
              rw [refL_steps ss f cl HJ.out hff] at hstp hyl
              have HYM := Lib.hid (show ∀ x ∈ stepsF (padF ss) (padF f) (ssF cl ss.length), (-1 ≤ x.1 ∧ x.1 < (ss.length : Int)) ∧ (-1 ≤ x.2 ∧ x.2 < (ss.length : Int)) ∧ x.1 ≠ x.2 from fun x hx => HSS.out x (List.mem_filter.1 hx).1)
              generalize hys : stepsF (padF ss) (padF f) (ssF cl ss.length) = ys at *
              have HYS := Lib.hid hys.symm
              have HFL2 := Lib.hid (fits_pad HJ.out hff).2.1
              have HSTP := Lib.hid hstp
              have HLR := Lib.hid hLr
              clear hfe hff hbi hbl hbo hcb hstp hLr hys
              go_wp2_with fail
              refine HSTP.out.mono ?_
              rintro e w1 ⟨s, rfl, hs, hb1⟩
              obtain ⟨sa, sc, rfl, _⟩ := hs.open
              have HR1 := Lib.hid (HR.out.1.grow hb1)
              have HKB0 := Lib.hid HR.out.2.2
              have HS1 := Lib.hid hs
              clear hb1 hs hcell HR HSTP HEN
              go_wp2_with fail
              go_loopw [12, 15] (fun lv kv wx => ∃ (j : Nat) (A2 : Sn) (L2 : List (List Int)), j ≤ ys.length ∧ 0 < L2.length ∧ kv = .int .i64 (j : Int) ∧ Hid (AllR w ss N lv A2 L2 wx ∧ SrI ss (ssF cl ss.length) ys res k f (kOf A (padF f) + 1) j A2 L2 ∧ KB A2 ∧ OwnP wx wr.heap.size (.slice sa ys.length sc) ys)) (fun _ kv _ => (ys.length - intOf kv).toNat)
              case atStart => exact ⟨0, A, L, by omega, hL0, rfl, Lib.hid ⟨HR1.out, HI0.out, HKB0.out, HS1.out⟩⟩
              case round =>
                generalize wr.heap.size = nS at *
                clear HR1 HI0 HKB0 HS1 hlt hd hdn hcap HLR
                generalize kOf A (padF f) + 1 = cnt at *
                clear hL0 hk
                obtain ⟨j, A2, L2, hj', hL2, rfl, HR⟩ := hrel
                obtain ⟨r2, cap2, rfl, hcap2⟩ := HR.out.1.l.open hL2
                have jw : IntKind.i64.wrap ((j : Int) + 1) = ((j + 1 : Nat) : Int) := by rw [i64_of _ (by omega) (by omega)]; omega
                by_cases hjl : j < ys.length
                · have hd : decide ((j : Int) < (ys.length : Int)) = true := decide_eq_true (by omega)
                  have hdn : decide (j < ys.length) = true := decide_eq_true hjl
                  obtain ⟨q1, q2, q3⟩ := HYM.out _ (List.getElem_mem hjl)
                  have hat := HR.out.2.1.at_
                  have hkL : k < L2.length := by
                    rcases Nat.lt_or_ge k L2.length with h | h
                    · exact h
                    · rw [List.getElem?_eq_none h] at hat; cases hat
                  rw [List.getElem?_eq_getElem hkL] at hat
                  obtain ⟨u, hcell, hent⟩ := HR.out.1.l.cell k hkL
                  rw [Option.some.inj hat] at hent
                  obtain ⟨sa', sc', hse, hso⟩ := HR.out.2.2.2.open
                  cases hse
                  obtain ⟨gs, _, rfl, hpts, _⟩ := hso.resolve_left (fun h => by rw [h.2.2] at hjl; simp at hjl)
                  have c1 := hpts.x j hjl
                  have c2 := hpts.y j hjl
                  have HSAME := Lib.hid (HR.out.2.1.same hjl)
                  have HNEW := Lib.hid (HR.out.2.1.new hjl)
                  have HPG := Lib.hid (HPD.out f HFL2.out _ _ q1 q2 q3)
                  have HGF := Lib.hid (fits_afterF HJ.out HFF.out q1 q2 q3)
                  have HGL := Lib.hid ((afterF_len ss f ys[j].1 ys[j].2).trans HFL2.out)
                  have hgs := hpts.lt
                  have HSTEP := Lib.hid (fun (W : World) (hb : Below wr.heap.size wr W) => show Calls Try.prog 61 #[.slice va ss.length vc, u, .agg #[.int .i64 ys[j].1, .int .i64 ys[j].2]] W fun e w' => ∃ x, e = .returned (.tuple #[x, .bool true]) ∧ EntN w.heap.size (afterF ss f ys[j].1 ys[j].2) x w' ∧ Below W.heap.size W w' from (rStep_any ss f (.slice va ss.length vc) u ys[j].1 ys[j].2 W (HV.out.grow (Below.andThen HR.out.1.bl hb (Nat.le_refl _))) (hent.grow hb).sli HJ.out HFF.out q1 q2 q3).mono fun e w' ⟨x, h1, h2, h3⟩ => ⟨x, h1, ⟨W, Nat.lt_of_lt_of_le HR.out.1.lt hb.size, _, h2⟩, h3⟩)
                  have HNU := Lib.hid HR.out.1.lt
                  have HCD := Lib.hid (cdF_bd HJ.out (fits_pad HJ.out HGF.out).1)
                  rw [HNE.out] at HCD
                  have HCDf := Lib.hid (cdF_bd HJ.out (fits_pad HJ.out HFF.out).1)
                  rw [HNE.out] at HCDf
                  have HTAB := Lib.hid (fun F (hF : FitP (padF ss) F) => tab_look HJ.out hF A2 (fun p hp => by
                    have : p.1 ∈ (L2.map padF).reverse := by rw [← HR.out.2.1.keys]; exact List.mem_map_of_mem hp
                    rw [List.mem_reverse, List.mem_map] at this
                    obtain ⟨g, hg, e⟩ := this
                    rw [← e]
                    exact (fits_pad HJ.out (HR.out.2.1.fits g hg)).1))
                  rw [HPG.out] at HSAME HNEW
                  clear hat hent hso hpts q1 q2 q3
                  generalize ys[j].1 = px at *
                  generalize ys[j].2 = py at *
                  generalize afterF ss f px py = G at *
                  have HCL := Lib.hid (fun (W : World) (hb : Below wr.heap.size wr W) => show W.cell? ⟨r2, k, none⟩ = some u from below_at hb (by
                    rcases Nat.lt_or_ge r2 wr.heap.size with h | h
                    · exact h
                    · rw [World.cell?, Array.getElem?_eq_none h] at hcell; cases hcell) hcell)
                  have HCS := Lib.hid (fun (W : World) (hb : Below wr.heap.size wr W) => show W.cell? ⟨gs, j * 2, none⟩ = some (.int .i64 px) ∧ W.cell? ⟨gs, j * 2 + 1, none⟩ = some (.int .i64 py) from by
                    rw [Nat.zero_add] at c1 c2
                    exact ⟨below_at hb hgs c1, below_at hb hgs c2⟩)
                  clear c1 c2 hcell hgs
                  go_wp2_with fail
                  refine wp_region_rel (by kernel_rfl) (by kernel_rfl) [69, 70, 71, 72, 73, 74, 75, 76, 77, 78, 68, 79, 80, 16, 17] [LitR (.slice va ss.length vc), LitR (.slice (some ⟨r2, 0, none⟩) L2.length cap2), LitR (.int .i64 (k : Int)), LitR (.pointer (some ⟨r2, k, none⟩)), LitR (u), LitR (.slice (some ⟨gs, 0, none⟩) ys.length sc), LitR (.int .i64 (j : Int)), LitR (.pointer (some ⟨gs, j * 2, none⟩)), LitR (.agg #[.int .i64 px, .int .i64 py]), (TupN w.heap.size G), (TupN w.heap.size G), (EntN w.heap.size G), LitR (.bool true), (EntN w.heap.size G), LitR (.bool true)] 15 rfl (List.forall_mem_cons.2 ⟨LitR.stab _, (List.forall_mem_cons.2 ⟨LitR.stab _, (List.forall_mem_cons.2 ⟨LitR.stab _, (List.forall_mem_cons.2 ⟨LitR.stab _, (List.forall_mem_cons.2 ⟨LitR.stab _, (List.forall_mem_cons.2 ⟨LitR.stab _, (List.forall_mem_cons.2 ⟨LitR.stab _, (List.forall_mem_cons.2 ⟨LitR.stab _, (List.forall_mem_cons.2 ⟨LitR.stab _, (List.forall_mem_cons.2 ⟨TupN.stab _ _, (List.forall_mem_cons.2 ⟨TupN.stab _ _, (List.forall_mem_cons.2 ⟨EntN.stab _ _, (List.forall_mem_cons.2 ⟨LitR.stab _, (List.forall_mem_cons.2 ⟨EntN.stab _ _, (List.forall_mem_cons.2 ⟨LitR.stab _, (fun _ h => nomatch h)⟩)⟩)⟩)⟩)⟩)⟩)⟩)⟩)⟩)⟩)⟩)⟩)⟩)⟩)⟩) ⟨[u69, u70, u71, u72, u73, u74, u75, u76, u77, u78, u68, u79, u80, u16, u17], by simp only [putAll, Act.put, List.setIfInBounds_toArray, List.set_cons_succ, List.set_cons_zero], rfl⟩ ?steps ?fin
                  case steps =>
                    simp only [relSteps]
                    refine ⟨?_, ?_, ?_, ?_, ?_, ?_, ?_, ?_, ?_, ?_, ?_, ?_, ?_, ?_, ?_, trivial⟩
                    · rintro vs W K hc hvl hw hK
                      obtain ⟨x0, x1, x2, x3, x4, x5, x6, x7, x8, x9, x10, x11, x12, x13, x14, rfl⟩ := len15 hvl
                      have HK := Lib.hid hK
                      have HC := Lib.hid hc
                      have HW := Lib.hid hw
                      clear hK hc hw hvl
                      simp only [putAll, Act.put, List.setIfInBounds_toArray, List.set_cons_succ, List.set_cons_zero]
                      clear HW
                      go_wp2_with fail
                      have fin := HK.out (.slice va ss.length vc) W (Below.refl _ _) rfl
                      simp only [putAll, Act.put, List.setIfInBounds_toArray, List.set_cons_succ, List.set_cons_zero] at fin
                      exact fin
                    · rintro vs W K hc hvl hw hK
                      obtain ⟨x0, x1, x2, x3, x4, x5, x6, x7, x8, x9, x10, x11, x12, x13, x14, rfl⟩ := len15 hvl
                      have HK := Lib.hid hK
                      have HC := Lib.hid hc
                      have HW := Lib.hid hw
                      clear hK hc hw hvl
                      simp only [putAll, Act.put, List.setIfInBounds_toArray, List.set_cons_succ, List.set_cons_zero]
                      clear HW
                      go_wp2_with fail
                      have fin := HK.out (.slice (some ⟨r2, 0, none⟩) L2.length cap2) W (Below.refl _ _) rfl
                      simp only [putAll, Act.put, List.setIfInBounds_toArray, List.set_cons_succ, List.set_cons_zero] at fin
                      exact fin
                    · rintro vs W K hc hvl hw hK
                      obtain ⟨x0, x1, x2, x3, x4, x5, x6, x7, x8, x9, x10, x11, x12, x13, x14, rfl⟩ := len15 hvl
                      have HK := Lib.hid hK
                      have HC := Lib.hid hc
                      have HW := Lib.hid hw
                      clear hK hc hw hvl
                      simp only [putAll, Act.put, List.setIfInBounds_toArray, List.set_cons_succ, List.set_cons_zero]
                      clear HW
                      go_wp2_with fail
                      have fin := HK.out (.int .i64 (k : Int)) W (Below.refl _ _) rfl
                      simp only [putAll, Act.put, List.setIfInBounds_toArray, List.set_cons_succ, List.set_cons_zero] at fin
                      exact fin
                    · rintro vs W K hc hvl hw hK
                      obtain ⟨x0, x1, x2, x3, x4, x5, x6, x7, x8, x9, x10, x11, x12, x13, x14, rfl⟩ := len15 hvl
                      have HK := Lib.hid hK
                      have HC := Lib.hid hc
                      have HW := Lib.hid hw
                      clear hK hc hw hvl
                      have hd1 := HW.out ⟨1, .data⟩ (by simp) rfl
                      obtain rfl : x1 = .slice (some ⟨r2, 0, none⟩) L2.length cap2 := rel_get hd1 rfl
                      have hd2 := HW.out ⟨2, .data⟩ (by simp) rfl
                      obtain rfl : x2 = .int .i64 (k : Int) := rel_get hd2 rfl
                      simp only [putAll, Act.put, List.setIfInBounds_toArray, List.set_cons_succ, List.set_cons_zero]
                      clear HW hd1 hd2
                      go_wp2_with fail
                      have fin := HK.out (.pointer (some ⟨r2, k, none⟩)) W (Below.refl _ _) rfl
                      simp only [putAll, Act.put, List.setIfInBounds_toArray, List.set_cons_succ, List.set_cons_zero] at fin
                      exact fin
                    · rintro vs W K hc hvl hw hK
                      obtain ⟨x0, x1, x2, x3, x4, x5, x6, x7, x8, x9, x10, x11, x12, x13, x14, rfl⟩ := len15 hvl
                      have HK := Lib.hid hK
                      have HC := Lib.hid hc
                      have HW := Lib.hid hw
                      clear hK hc hw hvl
                      have hd3 := HW.out ⟨3, .data⟩ (by simp) rfl
                      obtain rfl : x3 = .pointer (some ⟨r2, k, none⟩) := rel_get hd3 rfl
                      simp only [putAll, Act.put, List.setIfInBounds_toArray, List.set_cons_succ, List.set_cons_zero]
                      have k0 := HCL.out W HC.out
                      clear HW hd3
                      go_wp2_with fail
                      have fin := HK.out (u) W (Below.refl _ _) rfl
                      simp only [putAll, Act.put, List.setIfInBounds_toArray, List.set_cons_succ, List.set_cons_zero] at fin
                      exact fin
                    · rintro vs W K hc hvl hw hK
                      obtain ⟨x0, x1, x2, x3, x4, x5, x6, x7, x8, x9, x10, x11, x12, x13, x14, rfl⟩ := len15 hvl
                      have HK := Lib.hid hK
                      have HC := Lib.hid hc
                      have HW := Lib.hid hw
                      clear hK hc hw hvl
                      simp only [putAll, Act.put, List.setIfInBounds_toArray, List.set_cons_succ, List.set_cons_zero]
                      clear HW
                      go_wp2_with fail
                      have fin := HK.out (.slice (some ⟨gs, 0, none⟩) ys.length sc) W (Below.refl _ _) rfl
                      simp only [putAll, Act.put, List.setIfInBounds_toArray, List.set_cons_succ, List.set_cons_zero] at fin
                      exact fin
                    · rintro vs W K hc hvl hw hK
                      obtain ⟨x0, x1, x2, x3, x4, x5, x6, x7, x8, x9, x10, x11, x12, x13, x14, rfl⟩ := len15 hvl
                      have HK := Lib.hid hK
                      have HC := Lib.hid hc
                      have HW := Lib.hid hw
                      clear hK hc hw hvl
                      simp only [putAll, Act.put, List.setIfInBounds_toArray, List.set_cons_succ, List.set_cons_zero]
                      clear HW
                      go_wp2_with fail
                      have fin := HK.out (.int .i64 (j : Int)) W (Below.refl _ _) rfl
                      simp only [putAll, Act.put, List.setIfInBounds_toArray, List.set_cons_succ, List.set_cons_zero] at fin
                      exact fin
                    · rintro vs W K hc hvl hw hK
                      obtain ⟨x0, x1, x2, x3, x4, x5, x6, x7, x8, x9, x10, x11, x12, x13, x14, rfl⟩ := len15 hvl
                      have HK := Lib.hid hK
                      have HC := Lib.hid hc
                      have HW := Lib.hid hw
                      clear hK hc hw hvl
                      have hd5 := HW.out ⟨5, .data⟩ (by simp) rfl
                      obtain rfl : x5 = .slice (some ⟨gs, 0, none⟩) ys.length sc := rel_get hd5 rfl
                      have hd6 := HW.out ⟨6, .data⟩ (by simp) rfl
                      obtain rfl : x6 = .int .i64 (j : Int) := rel_get hd6 rfl
                      simp only [putAll, Act.put, List.setIfInBounds_toArray, List.set_cons_succ, List.set_cons_zero]
                      clear HW hd5 hd6
                      go_wp2_with fail
                      have fin := HK.out (.pointer (some ⟨gs, j * 2, none⟩)) W (Below.refl _ _) rfl
                      simp only [putAll, Act.put, List.setIfInBounds_toArray, List.set_cons_succ, List.set_cons_zero] at fin
                      exact fin
                    · rintro vs W K hc hvl hw hK
                      obtain ⟨x0, x1, x2, x3, x4, x5, x6, x7, x8, x9, x10, x11, x12, x13, x14, rfl⟩ := len15 hvl
                      have HK := Lib.hid hK
                      have HC := Lib.hid hc
                      have HW := Lib.hid hw
                      clear hK hc hw hvl
                      have hd7 := HW.out ⟨7, .data⟩ (by simp) rfl
                      obtain rfl : x7 = .pointer (some ⟨gs, j * 2, none⟩) := rel_get hd7 rfl
                      simp only [putAll, Act.put, List.setIfInBounds_toArray, List.set_cons_succ, List.set_cons_zero]
                      obtain ⟨k0, k1⟩ := HCS.out W HC.out
                      clear HW hd7
                      go_wp2_with fail
                      have fin := HK.out (.agg #[.int .i64 px, .int .i64 py]) W (Below.refl _ _) rfl
                      simp only [putAll, Act.put, List.setIfInBounds_toArray, List.set_cons_succ, List.set_cons_zero] at fin
                      exact fin
                    · rintro vs W K hc hvl hw hK
                      obtain ⟨x0, x1, x2, x3, x4, x5, x6, x7, x8, x9, x10, x11, x12, x13, x14, rfl⟩ := len15 hvl
                      have HK := Lib.hid hK
                      have HC := Lib.hid hc
                      have HW := Lib.hid hw
                      clear hK hc hw hvl
                      have hd0 := HW.out ⟨0, .data⟩ (by simp) rfl
                      obtain rfl : x0 = .slice va ss.length vc := rel_get hd0 rfl
                      have hd4 := HW.out ⟨4, .data⟩ (by simp) rfl
                      obtain rfl : x4 = u := rel_get hd4 rfl
                      have hd8 := HW.out ⟨8, .data⟩ (by simp) rfl
                      obtain rfl : x8 = .agg #[.int .i64 px, .int .i64 py] := rel_get hd8 rfl
                      simp only [putAll, Act.put, List.setIfInBounds_toArray, List.set_cons_succ, List.set_cons_zero]
                      clear HW hd0 hd4 hd8
                      go_wp2_with fail
                      refine (HSTEP.out W HC.out).mono ?_
                      rintro e W' ⟨x, rfl, hx, hb1⟩
                      have HB' := Lib.hid hb1
                      have HX := Lib.hid hx
                      clear hb1 hx
                      go_wp2_with fail
                      have fin := HK.out ((.tuple #[x, .bool true])) W' HB'.out ⟨x, rfl, HX.out⟩
                      simp only [putAll, Act.put, List.setIfInBounds_toArray, List.set_cons_succ, List.set_cons_zero] at fin
                      exact fin
                    · rintro vs W K hc hvl hw hK
                      obtain ⟨x0, x1, x2, x3, x4, x5, x6, x7, x8, x9, x10, x11, x12, x13, x14, rfl⟩ := len15 hvl
                      have HK := Lib.hid hK
                      have HC := Lib.hid hc
                      have HW := Lib.hid hw
                      clear hK hc hw hvl
                      have hd9 := HW.out ⟨9, .data⟩ (by simp) rfl
                      have hr := rel_get (x := x9) hd9 rfl
                      obtain ⟨gu, rfl, hgu⟩ := hr
                      have HGU := Lib.hid hgu
                      clear hgu
                      simp only [putAll, Act.put, List.setIfInBounds_toArray, List.set_cons_succ, List.set_cons_zero]
                      clear HW hd9
                      go_wp2_with fail
                      have fin := HK.out ((.tuple #[gu, .bool true])) W (Below.refl _ _) ⟨gu, rfl, HGU.out⟩
                      simp only [putAll, Act.put, List.setIfInBounds_toArray, List.set_cons_succ, List.set_cons_zero] at fin
                      exact fin
                    · rintro vs W K hc hvl hw hK
                      obtain ⟨x0, x1, x2, x3, x4, x5, x6, x7, x8, x9, x10, x11, x12, x13, x14, rfl⟩ := len15 hvl
                      have HK := Lib.hid hK
                      have HC := Lib.hid hc
                      have HW := Lib.hid hw
                      clear hK hc hw hvl
                      have hd10 := HW.out ⟨10, .data⟩ (by simp) rfl
                      have hr := rel_get (x := x10) hd10 rfl
                      obtain ⟨gu, rfl, hgu⟩ := hr
                      have HGU := Lib.hid hgu
                      clear hgu
                      simp only [putAll, Act.put, List.setIfInBounds_toArray, List.set_cons_succ, List.set_cons_zero]
                      clear HW hd10
                      go_wp2_with fail
                      have fin := HK.out (gu) W (Below.refl _ _) HGU.out
                      simp only [putAll, Act.put, List.setIfInBounds_toArray, List.set_cons_succ, List.set_cons_zero] at fin
                      exact fin
                    · rintro vs W K hc hvl hw hK
                      obtain ⟨x0, x1, x2, x3, x4, x5, x6, x7, x8, x9, x10, x11, x12, x13, x14, rfl⟩ := len15 hvl
                      have HK := Lib.hid hK
                      have HC := Lib.hid hc
                      have HW := Lib.hid hw
                      clear hK hc hw hvl
                      have hd10 := HW.out ⟨10, .data⟩ (by simp) rfl
                      have hr := rel_get (x := x10) hd10 rfl
                      obtain ⟨gu, rfl, hgu⟩ := hr
                      have HGU := Lib.hid hgu
                      clear hgu
                      simp only [putAll, Act.put, List.setIfInBounds_toArray, List.set_cons_succ, List.set_cons_zero]
                      clear HW hd10
                      go_wp2_with fail
                      have fin := HK.out (.bool true) W (Below.refl _ _) rfl
                      simp only [putAll, Act.put, List.setIfInBounds_toArray, List.set_cons_succ, List.set_cons_zero] at fin
                      exact fin
                    · rintro vs W K hc hvl hw hK
                      obtain ⟨x0, x1, x2, x3, x4, x5, x6, x7, x8, x9, x10, x11, x12, x13, x14, rfl⟩ := len15 hvl
                      have HK := Lib.hid hK
                      have HC := Lib.hid hc
                      have HW := Lib.hid hw
                      clear hK hc hw hvl
                      have hd11 := HW.out ⟨11, .data⟩ (by simp) rfl
                      have hr := rel_get (x := x11) hd11 rfl
                      have HO11 := Lib.hid (show EntN w.heap.size G x11 W from hr)
                      clear hr
                      simp only [putAll, Act.put, List.setIfInBounds_toArray, List.set_cons_succ, List.set_cons_zero]
                      clear HW hd11
                      go_wp2_with fail
                      have fin := HK.out (x11) W (Below.refl _ _) HO11.out
                      simp only [putAll, Act.put, List.setIfInBounds_toArray, List.set_cons_succ, List.set_cons_zero] at fin
                      exact fin
                    · rintro vs W K hc hvl hw hK
                      obtain ⟨x0, x1, x2, x3, x4, x5, x6, x7, x8, x9, x10, x11, x12, x13, x14, rfl⟩ := len15 hvl
                      have HK := Lib.hid hK
                      have HC := Lib.hid hc
                      have HW := Lib.hid hw
                      clear hK hc hw hvl
                      have hd12 := HW.out ⟨12, .data⟩ (by simp) rfl
                      obtain rfl : x12 = .bool true := rel_get hd12 rfl
                      simp only [putAll, Act.put, List.setIfInBounds_toArray, List.set_cons_succ, List.set_cons_zero]
                      clear HW hd12
                      go_wp2_with fail
                      have fin := HK.out (.bool true) W (Below.refl _ _) rfl
                      simp only [putAll, Act.put, List.setIfInBounds_toArray, List.set_cons_succ, List.set_cons_zero] at fin
                      exact fin
                  case fin =>
                    intro vs W hc hvl hv
                    obtain ⟨x0, x1, x2, x3, x4, x5, x6, x7, x8, x9, x10, x11, x12, x13, x14, rfl⟩ := len15 hvl
                    have hd13 := hv 13 (by omega)
                    have hr := rel_get (x := x13) hd13 rfl
                    have HO13 := Lib.hid (show EntN w.heap.size G x13 W from hr)
                    clear hr
                    clear hd13
                    simp only [putAll, Act.put, List.setIfInBounds_toArray, List.set_cons_succ, List.set_cons_zero]
                    have hgne : G ≠ [] := fun e => by have h1 := HGL.out; rw [e, List.length_nil] at h1; omega
                    have hentG := HO13.out.ent hgne
                    have HRW := Lib.hid (HR.out.1.grow hc)
                    have HYW := Lib.hid (own_grow HR.out.2.2.2 hc)
                    have hcode := HCODE.out W HRW.out.bl G x13 hentG.sli HGF.out
                    rw [← HCP.out G] at hcode
                    have hcd := HCD.out
                    have hcdf := HCDf.out
                    obtain ⟨d, hd'⟩ : ∃ d : Nat, cdF ss (padF G) = (d : Int) := ⟨(cdF ss (padF G)).toNat, by omega⟩
                    obtain ⟨df, hdf⟩ : ∃ d : Nat, cdF ss (padF f) = (d : Int) := ⟨(cdF ss (padF f)).toNat, by omega⟩
                    have hdN : d < N := by omega
                    have hdfN : df < N := by omega
                    have htG := HTAB.out _ (fits_pad HJ.out HGF.out).1
                    have htf := HTAB.out _ (fits_pad HJ.out HFF.out).1
                    rw [hd'] at htG hcode
                    rw [hdf] at htf
                    have HHD := Lib.hid hd'
                    have HHDF := Lib.hid hdf
                    have HHG := Lib.hid hcode
                    have HENG := Lib.hid hentG
                    have HTG := Lib.hid htG
                    have HTF := Lib.hid htf
                    have HCX := Lib.hid hc
                    obtain ⟨gb, gc, rfl, _⟩ := hentG
                    clear hc hv hvl hgne hcode hcd hcdf hd' hdf htG htf hd hdn
                    go_wp2_with fail
                    refine HHG.out.mono ?_
                    rintro e w3 ⟨rfl, hb3⟩
                    have HR3 := Lib.hid (HRW.out.grow hb3)
                    have HY3 := Lib.hid (own_grow HYW.out hb3)
                    have HEN3 := Lib.hid (HENG.out.grow hb3)
                    have HCX3 := Lib.hid (Below.andThen HCX.out hb3 (Nat.le_refl _))
                    obtain ⟨k1, k2⟩ := own_cell HR3.out.out d hdN
                    rw [tabL_get ss A2 N d hdN, HTG.out] at k1
                    clear hb3 HHG
                    cases hlk : lookA A2 (padF G) with
                    | some cm =>
                      rw [hlk] at k1
                      simp only [Option.map_some, Option.getD_some] at k1
                      have hkn := HR.out.2.2.1.look hlk
                      have hneg : decide (cm.k < 0) = false := decide_eq_false (by omega)
                      have HSM := Lib.hid (HSAME.out (by rw [hlk]; rfl))
                      have HKB2 := Lib.hid HR.out.2.2.1
                      clear hkn hlk
                      go_wp2_with fail
                      exact ⟨⟨j + 1, A2, L2, by omega, hL2, by simp, Lib.hid ⟨HR3.out, HSM.out, HKB2.out, HY3.out⟩⟩, by simp [intOf]; omega⟩
                    | none =>
                      rw [hlk] at k1
                      simp only [Option.map_none, Option.getD_none] at k1
                      have HSN := Lib.hid (HNEW.out (by rw [hlk]; rfl) G rfl HGF.out)
                      have HKB2 := Lib.hid HR.out.2.2.1
                      have hknf := HR.out.2.1.known
                      have hcn := HR.out.2.1.cnt
                      obtain ⟨cf2, hcf2⟩ := Option.isSome_iff_exists.1 hknf
                      have htf := HTF.out
                      have hbd := HKB2.out.look hcf2
                      have hlen := HR.out.2.1.keys
                      have hll := congrArg List.length hlen
                      simp only [List.length_map, List.length_reverse] at hll
                      have hlr := HR.out.2.1.len HYS.out
                      have hrl := HRL.out
                      rw [kOf_some hcf2] at hcn
                      rw [hcf2] at htf
                      simp only [Option.map_some, Option.getD_some] at htf
                      have hcb : cf2.k + 1 ≤ 28562 := by omega
                      have HKN := Lib.hid (HKB2.out.cons (F := padF G) (c := ⟨padF f, px, py, cnt⟩) hknf (by rw [kOf_some hcf2]; exact hcn.symm))
                      have HTF2 := Lib.hid htf
                      have k3 := HCL.out w3 HCX3.out
                      have hco := HCODE.out w3 HR3.out.bl f u (by
                        obtain ⟨u', e1, e2⟩ := HR3.out.l.cell k hkL
                        rw [k3] at e1; cases e1
                        have e3 := HR.out.2.1.at_
                        rw [List.getElem?_eq_getElem hkL] at e3
                        rw [Option.some.inj e3] at e2
                        exact e2.sli) HFF.out
                      rw [← HCP.out f, HHDF.out] at hco
                      have HCO := Lib.hid hco
                      have HCN := Lib.hid hcn
                      have hb0 := hbd.1
                      clear hlk hknf hcf2 htf hbd hlen hll hlr hrl hco hcn
                      go_wp2_with fail
                      refine HCO.out.mono ?_
                      rintro e w4 ⟨rfl, hb4⟩
                      have HR4 := Lib.hid (HR3.out.grow hb4)
                      obtain ⟨k4, _⟩ := own_cell HR4.out.out df hdfN
                      obtain ⟨k5, k6⟩ := own_cell HR4.out.out d hdN
                      rw [tabL_get ss A2 N df hdfN, HTF2.out] at k4
                      obtain rfl := HCN.out
                      have n1 : IntKind.i64.wrap (cf2.k + 1) = cf2.k + 1 := i64_of _ (by omega) (by omega)
                      obtain ⟨us, p1, p2, p3, p4⟩ := HR4.out.push hL2 HHD.out ⟨padF f, px, py, cf2.k + 1⟩ (HEN3.out.grow hb4) (own_grow HY3.out hb4)
                      have hl2 : L2.length ≤ 28561 := Nat.le_trans (HR.out.2.1.len HYS.out) HRL.out
                      have P1 := Lib.hid p1
                      have P3 := Lib.hid p3
                      have P4 := Lib.hid p4
                      clear p1 p2 p3 p4 hb4 HCO k1 k2 k3
                      go_wp2_with (at_builtin; refine wpList_append_own_at _ rfl _ _ 54 rfl w.heap.size 22 i0 (.slice none 0 0) 1 24 Try.underlying54 hi hz0 hz1 hz2 rfl (by decide) (.slice (some ⟨r2, 0, none⟩) L2.length cap2) L2.length us rfl (P1.out.alloc _) ⟨w4.heap.size, 0, none⟩ 1 1 [.slice (some ⟨gb, 0, none⟩) G.length gc] rfl rfl (cell_one_at _ _ _ _ (by simp [World.setCell])) (by simp [Value.oneCell']) (by unfold maxLen; omega) (by omega) (Nat.le_trans P3.out.size (by simp)) ?_; intro v' w5 hown' hgrow hnil hat'; have HRR := Lib.hid (P4.out _ v' w5 hown' hgrow); clear hown' hgrow hnil hat')
                      exact ⟨⟨j + 1, _, L2 ++ [G], by omega, by simp, by simp, Lib.hid ⟨HRR.out.1, HSN.out, HKN.out, HRR.out.2⟩⟩, by simp [intOf]; omega⟩
                · have hd : decide ((j : Int) < (ys.length : Int)) = false := decide_eq_false (by omega)
                  have hdn : decide (j < ys.length) = false := decide_eq_false hjl
                  obtain rfl : j = ys.length := by omega
                  have HLV := Lib.hid (HR.out.2.1.leave HYS.out)
                  have HLE := Lib.hid (HR.out.2.1.len HYS.out)
                  have hkL : k < L2.length := by
                    have hat := HR.out.2.1.at_
                    rcases Nat.lt_or_ge k L2.length with h | h
                    · exact h
                    · rw [List.getElem?_eq_none h] at hat; cases hat
                  go_wp2_with fail
                  exact ⟨⟨k + 1, A2, L2, by omega, hL2, by simp, Lib.hid ⟨HR.out.1, HLV.out, HR.out.2.2.1⟩⟩, by have := HLE.out; simp [intOf]; omega⟩
            · have hd : decide ((k : Int) < (L.length : Int)) = false := decide_eq_false (by omega)
              have hdn : decide (k < L.length) = false := decide_eq_false hlt
              obtain rfl : k = L.length := by omega
              have HD := Lib.hid HR.out.2.1.done
              go_wp2_with fail
              go_ret2
              refine ⟨_, _, L, rfl, ?_, HR.out.1.l, ?_, HR.out.2.1.fits, HR.out.1.bl⟩
              · rw [HNE.out, HD.out, Int.toNat_natCast]
                exact sli_own HR.out.1.out
              · rw [HD.out]; exact HR.out.2.1.keys
end Go.Proofs.Ytlamppplnojpbaa
