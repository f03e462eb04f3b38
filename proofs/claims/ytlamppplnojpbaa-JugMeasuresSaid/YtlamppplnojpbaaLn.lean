import Derived.Test.YtlamppplnojpbaaLm
import Derived.Laws.AppendOwn
import Derived.ChangeKeysEq
import Derived.Maps.RangeWalk
import Derived.Maps.OwnIn
import Derived.Maps.AppendAt
import Derived.RangeFuncNested
import Derived.RangeFuncBound
import Derived.RangeFuncCalls
import Derived.RangeFuncLeaves
import Derived.Shelf.Abstract
import Derived.Shelf.RegionOpen
import Derived.WalkKit
import Derived.WalkMore
import Derived.OwnWalkIn
import Derived.TacticsInMore
import Derived.LoopNIn
import Derived.LoopIn
import Derived.WalkSpells
import Derived.WalkLawsBesides
import Derived.BigQuiet
import Derived.Deep.QuietTactic
import Derived.Lib.Hide
import Derived.Deep.RegionHeld3
import Derived.StillTailTactics
import Derived.Deep.LoopGhost
import Derived.Maps.OwnSet
import Derived.Lib.IndexAny
import Derived.Sort.QuietThIn
import Derived.Sort.QuietTacIn
import Derived.Sort.BigQuietIn
import Derived.Laws.OwnMore
namespace Go.Proofs.Ytlamppplnojpbaa
open Go.RowKit Go.Shelf
attribute [local go_sem] Oper.semAt_some
theorem after4 (n p0 p1 p2 p3 f0 f1 f2 f3 a b : Int) (hfit : FitP [p0, p1, p2, p3] [f0, f1, f2, f3]) (ha : -1 ≤ a ∧ a ≤ 3) (hb : -1 ≤ b ∧ b ≤ 3) (hab : a ≠ b) (w : World) :
    Calls Try.prog 54 #[.agg #[.int .i64 n, .int .i64 p0, .int .i64 p1, .int .i64 p2, .int .i64 p3], .agg #[.int .i64 f0, .int .i64 f1, .int .i64 f2, .int .i64 f3], .agg #[.int .i64 a, .int .i64 b]] w fun e w' => e = .returned (aggI (afterF [p0, p1, p2, p3] [f0, f1, f2, f3] a b)) ∧ Below w.heap.size w w' :=
  after_any n [p0, p1, p2, p3] [f0, f1, f2, f3] rfl rfl hfit.2 a b ha hb hab w
/-- the blocks of Pour: the jugs, and the filling now -/
structure PourW (w0 W : World) (jb nb : Nat) (n : Nat) (P F : List Int) : Prop where
  bl : Below w0.heap.size w0 W
  j : Row W jb 80 (.int .i64 (n : Int) :: P.map encI)
  f : Row W nb 77 (F.map encI)
  jl : w0.heap.size ≤ jb
  nl : w0.heap.size ≤ nb
  ne : jb ≠ nb
theorem PourW.grow {w0 W W' : World} {jb nb n : Nat} {P F : List Int} (h : PourW w0 W jb nb n P F) (hb : Below W.heap.size W W') : PourW w0 W' jb nb n P F :=
  ⟨Below.andThen h.bl hb (Nat.le_refl _), h.j.below hb h.j.lt, h.f.below hb h.f.lt, h.jl, h.nl, h.ne⟩
theorem take_pad (L : List Int) (h : L.length ≤ 4) : (padF L).take L.length = L := by
  rw [padF_app h, List.take_left']
  rfl
theorem goF_eq {P F zs fs : List Int} {n : Nat} {g0 g1 g2 g3 : Int} {xs : List Pt} (h : goF P F xs = [g0, g1, g2, g3]) (hp : ∀ xs : List Pt, (∀ p ∈ xs, okP (n : Int) p = true) → goF P F xs = padF (goF zs fs xs)) (hl : ∀ xs, (goF zs fs xs).length = n) (ha : ∀ p ∈ xs, okP (n : Int) p = true) (hn : n ≤ 4 := by decide) : goF zs fs xs = [g0, g1, g2, g3].take n := by
  have h1 := take_pad (goF zs fs xs) (by rw [hl]; exact hn)
  rw [← hp xs ha, h, hl] at h1
  exact h1.symm
theorem ints_of_row {W : World} {g : Nat} {E : TypeId} {F : List Int} (h : Row W g E (F.map encI)) (n : Nat) (hn : n ≤ F.length) : IntsAt W g 0 (F.take n) := ⟨.inr h.lt, fun i hi => by
  rw [List.length_take] at hi
  rw [Nat.zero_add, h.cell i, List.getElem?_map, List.getElem?_eq_getElem (by omega), List.getElem_take]; rfl⟩
theorem PourW.put {w0 W : World} {jb nb n : Nat} {P : List Int} {F : List Int} (h : PourW w0 W jb nb n P F) (_g0 _g1 _g2 _g3 h0 h1 h2 h3 : Int) (hF : F = [_g0, _g1, _g2, _g3] := by rfl) :
    PourW w0 ((((W.setCell ⟨nb, 0, none⟩ (.int .i64 h0)).setCell ⟨nb, 1, none⟩ (.int .i64 h1)).setCell ⟨nb, 2, none⟩ (.int .i64 h2)).setCell ⟨nb, 3, none⟩ (.int .i64 h3)) jb nb n P [h0, h1, h2, h3] := by
  subst hF
  refine ⟨(((h.bl.setCell (p := ⟨nb, 0, none⟩) h.nl _).setCell (p := ⟨nb, 1, none⟩) h.nl _).setCell (p := ⟨nb, 2, none⟩) h.nl _).setCell (p := ⟨nb, 3, none⟩) h.nl _, (((h.j.other _ _ h.ne).other _ _ h.ne).other _ _ h.ne).other _ _ h.ne, ?_, h.jl, h.nl, h.ne⟩
  simpa [encI] using (((h.f.set 0 (.int .i64 h0)).set 1 (.int .i64 h1)).set 2 (.int .i64 h2)).set 3 (.int .i64 h3)
theorem pour_start (w0 w : World) (n : Nat) (P F : List Int) (h : Below w0.heap.size w0 w) : PourW w0 ((w.alloc (.cells (.int .i64 (n : Int) :: P.map encI).toArray 80)).alloc (.cells (F.map encI).toArray 77)) w.heap.size (w.heap.size + 1) n P F := by
  have b1 := Below.al (Below.refl w.heap.size w) (Nat.le_refl _) (.cells (.int .i64 (n : Int) :: P.map encI).toArray 80)
  have z1 := size_al w (.cells (.int .i64 (n : Int) :: P.map encI).toArray 80)
  have r1 := Row.new w 80 (.int .i64 (n : Int) :: P.map encI)
  generalize w.alloc (.cells (.int .i64 (n : Int) :: P.map encI).toArray 80) = w1 at *
  have b2 := Below.al (Below.refl w1.heap.size w1) (Nat.le_refl _) (.cells (F.map encI).toArray 77)
  have r2 := Row.new w1 77 (F.map encI)
  rw [z1] at r2
  exact ⟨Below.andThen (Below.andThen h b1 (Nat.le_refl _)) b2 (Nat.le_refl _), r1.below b2 r1.lt, r2, h.size, by have := h.size; omega, by omega⟩
theorem fitp_goF {P : List Int} {n : Nat} (hn : n ≤ 4) : ∀ {xs : List Pt} {F : List Int}, FitP P F → (∀ p ∈ xs, okP n p = true) → FitP P (goF P F xs)
  | [], _, h, _ => h
  | x :: xs, F, h, ha => by
    obtain ⟨h1, h2, h3⟩ := okP_iff.1 (ha x (by simp))
    rw [goF]
    exact fitp_goF hn (h.after (by omega) (by omega) h1) (fun p hp => ha p (List.mem_cons_of_mem _ hp))
set_option maxRecDepth 100000 in
set_option maxHeartbeats 4000000 in
theorem Pour_ok (zs fs : List Int) (ps : List Pt) (v u x : Value) (w : World) (hv : SlI w v zs) (hu : SlI w u fs) (hx : SlP w x ps) (hj : jugsB zs = true) (hf : fitsB zs fs = true) (hl : ps.length ≤ 1000000) :
    Calls Try.prog 26 #[v, u, x] w fun e w' => ∃ s, e = .returned (.tuple #[s, .int .i64 ((ps.takeWhile (okP zs.length)).length : Int), .int .i64 0]) ∧ w'.ownsRow w.heap.size 3 1 s zs.length ((goF zs fs (ps.takeWhile (okP zs.length))).map encI) ∧ Below w.heap.size w w' := by
  obtain ⟨hfit, hfl, hf4⟩ := fits_pad hj hf
  obtain ⟨xa, xc, rfl, hxc, hxs⟩ := hx
  have HC := Lib.hid (check1 hv (by have := jugsB_len hj; omega) hu)
  rw [errA_fits hj hf] at HC
  have HJO := Lib.hid (fun (W : World) (hb : Below w.heap.size w W) => jugsOf_any zs v W (hv.grow hb) (jugsB_len hj).2)
  have HFO := Lib.hid (fun (W : World) (hb : Below w.heap.size w W) => fillingOf_any fs u W (hu.grow hb) hf4)
  obtain ⟨hn1, hn4, p0, p1, p2, p3, hp, hjv, b0, b1, b2, b3⟩ := jugs_open hj
  rw [hjv] at HJO
  obtain ⟨f0, f1, f2, f3, hff⟩ := agg4 (padF fs) (padF_len fs)
  rw [hff] at HFO
  simp only [aggI, List.map_cons, List.map_nil, encI] at HFO
  rw [hp, hff] at hfit
  have HPG := Lib.hid (fun xs (h : ∀ p ∈ xs, okP zs.length p = true) => pad_goF zs hn4 xs fs hfl h)
  rw [hp, hff] at HPG
  have HXS := Lib.hid hxs
  obtain ⟨va, vc, hvv⟩ : ∃ a c, v = .slice a zs.length c := by obtain ⟨a, c, h, _⟩ := hv; exact ⟨a, c, h⟩
  obtain ⟨ua, uc, huu⟩ : ∃ a c, u = .slice a fs.length c := by obtain ⟨a, c, h, _⟩ := hu; exact ⟨a, c, h⟩
  have HGL := Lib.hid (fun xs => (goF_len zs xs fs).trans hfl)
  obtain ⟨n, hn⟩ : ∃ n, zs.length = n := ⟨_, rfl⟩
  rw [hfl] at huu
  rw [hn] at hn1 hn4 hvv huu HJO HPG HGL ⊢
  have HFIT := Lib.hid hfit
  clear hv hu hj hf hxs hp hjv hff hf4 hfl hfit b0 b1 b2 b3 hn
  subst hvv huu
  have hn : n = 1 ∨ n = 2 ∨ n = 3 ∨ n = 4 := by omega
  clear hn1 hn4
  rcases hn with rfl | rfl | rfl | rfl
  · go_enter Try.func26, Try.ntmps26
    go_wp2_with fail
    refine HC.out.mono ?_
    rintro e w1 ⟨rfl, hb⟩
    have HB1 := Lib.hid hb
    clear hb HC
    go_wp2_with fail
    refine (HJO.out w1 HB1.out).mono ?_
    rintro e w2 ⟨rfl, hb⟩
    have HB2 := Lib.hid (Below.andThen HB1.out hb (Nat.le_refl _))
    clear hb HJO HB1
    go_wp2_with fail
    refine (HFO.out w2 HB2.out).mono ?_
    rintro e w3 ⟨rfl, hb⟩
    have HB3 := Lib.hid (Below.andThen HB2.out hb (Nat.le_refl _))
    clear hb HFO HB2
    go_wp2_with fail
    have hst := pour_start w w3 1 [p0, p1, p2, p3] [f0, f1, f2, f3] HB3.out
    have HST := Lib.hid hst
    clear hst HB3
    go_loopw [12, 28] (fun dv iv wr => ∃ k : Nat, k ≤ ps.length ∧ dv = .int .i64 (k : Int) ∧ iv = .int .i64 (k : Int) ∧ Hid (PourW w wr w3.heap.size (w3.heap.size + 1) 1 [p0, p1, p2, p3] (goF [p0, p1, p2, p3] [f0, f1, f2, f3] (ps.take k))) ∧ Hid (∀ p ∈ ps.take k, okP ((1 : Nat) : Int) p = true)) (fun _ iv _ => (ps.length - intOf iv).toNat)
    case atStart => exact ⟨0, by omega, rfl, rfl, HST, Lib.hid (fun p hp => by simp at hp)⟩
    case round =>
      obtain ⟨k, hk, rfl, rfl, HW, HA⟩ := hrel
      have kw : IntKind.i64.wrap ((k : Int) + 1) = ((k + 1 : Nat) : Int) := by rw [i64_of _ (by omega) (by omega)]; omega
      by_cases hlt : k < ps.length
      · have hd : decide ((k : Int) < (ps.length : Int)) = true := decide_eq_true (by omega)
        have hdn : decide (k < ps.length) = true := decide_eq_true hlt
        obtain ⟨g, o, rfl, hps⟩ : ∃ g o, xa = some ⟨g, o, none⟩ ∧ PtsAt w g o ps := HXS.out.resolve_left (fun e => by rw [e] at hlt; simp at hlt)
        have hps2 := hps.grow HW.out.bl
        have c1 := hps2.x k hlt
        have c2 := hps2.y k hlt
        have HG := Lib.hid (goF_snoc [p0, p1, p2, p3] [f0, f1, f2, f3] (ps.take k) ps[k])
        have HTS := Lib.hid (show ps.take (k + 1) = ps.take k ++ [ps[k]] from List.take_succ_eq_append_getElem hlt)
        have HASN := Lib.hid (fun h => all_snoc (q := okP ((1 : Nat) : Int)) hlt HA.out h)
        have HTW := Lib.hid (fun h => takeW_at (q := okP ((1 : Nat) : Int)) hlt HA.out h)
        have hgf : FitP [p0, p1, p2, p3] (goF [p0, p1, p2, p3] [f0, f1, f2, f3] (ps.take k)) := fitp_goF (n := 1) (by omega) HFIT.out HA.out
        obtain ⟨g0, g1, g2, g3, hgg⟩ := agg4 _ hgf.1
        rw [hgg] at hgf HW HG
        have HGG := Lib.hid hgg
        have HGF := Lib.hid hgf
        clear hgg hgf hps hps2
        have hcj : ∀ W, Below wr.heap.size wr W → (W.cell? ⟨w3.heap.size, 0, none⟩ = some (.int .i64 1) ∧ W.cell? ⟨w3.heap.size, 1, none⟩ = some (.int .i64 p0) ∧ W.cell? ⟨w3.heap.size, 2, none⟩ = some (.int .i64 p1) ∧ W.cell? ⟨w3.heap.size, 3, none⟩ = some (.int .i64 p2) ∧ W.cell? ⟨w3.heap.size, 4, none⟩ = some (.int .i64 p3)) ∧
            (W.cell? ⟨w3.heap.size + 1, 0, none⟩ = some (.int .i64 g0) ∧ W.cell? ⟨w3.heap.size + 1, 1, none⟩ = some (.int .i64 g1) ∧ W.cell? ⟨w3.heap.size + 1, 2, none⟩ = some (.int .i64 g2) ∧ W.cell? ⟨w3.heap.size + 1, 3, none⟩ = some (.int .i64 g3)) := fun W hb => by
          have h1 := (HW.out.grow hb).j
          have h2 := (HW.out.grow hb).f
          exact ⟨⟨h1.cell 0, h1.cell 1, h1.cell 2, h1.cell 3, h1.cell 4⟩, h2.cell 0, h2.cell 1, h2.cell 2, h2.cell 3⟩
        have HCJ := Lib.hid hcj
        clear hcj
        obtain ⟨E, hE⟩ : ∃ E, okP ((1 : Nat) : Int) ps[k] = E := ⟨_, rfl⟩
        have HE := Lib.hid hE
        have hsb : stepB ((1 : Nat) : Int) ps[k].1 ps[k].2 = E := hE
        have HSB := Lib.hid (fun W => isStep_any ((1 : Nat) : Int) p0 p1 p2 p3 ps[k].1 ps[k].2 W)
        rw [hsb] at HSB
        clear hE hsb
        have HOK := Lib.hid (show E = true → ps[k].1 ≠ ps[k].2 ∧ (-1 ≤ ps[k].1 ∧ ps[k].1 < ((1 : Nat) : Int)) ∧ (-1 ≤ ps[k].2 ∧ ps[k].2 < ((1 : Nat) : Int)) from fun h => okP_iff.1 (HE.out.trans h))
        generalize ps[k].1 = px at *
        generalize ps[k].2 = py at *
        obtain ⟨⟨j0, j1, j2, j3, j4⟩, q0, q1, q2, q3⟩ := HCJ.out _ (Below.al (Below.refl wr.heap.size wr) (Nat.le_refl _) (.cells #[.int .i64 px, .int .i64 py] 48))
        go_wp2_with fail
        refine (HSB.out _).mono ?_
        rintro e w4 ⟨rfl, hb4⟩
        have rs := (Row.new wr 48 [.int .i64 px, .int .i64 py]).below hb4 (Row.new wr 48 [.int .i64 px, .int .i64 py]).lt
        have HB4 := Lib.hid (Below.andThen (Below.al (Below.refl wr.heap.size wr) (Nat.le_refl _) (.cells #[.int .i64 px, .int .i64 py] 48)) hb4 (Nat.le_refl _))
        have HRS := Lib.hid rs
        clear hb4 HSB j0 j1 j2 j3 j4 q0 q1 q2 q3 c1 c2 rs
        obtain ⟨⟨j0, j1, j2, j3, j4⟩, q0, q1, q2, q3⟩ := HCJ.out _ HB4.out
        have s0 := HRS.out.cell 0
        have s1 := HRS.out.cell 1
        simp only [List.getElem?_cons_zero, List.getElem?_cons_succ] at s0 s1
        cases E with
        | false =>
          have HT := Lib.hid (HTW.out HE.out)
          have HL := Lib.hid (goF_eq HGG.out HPG.out HGL.out HA.out)
          have HII := Lib.hid (ints_of_row (HW.out.grow HB4.out).f 1 (by simp))
          have HBW := Lib.hid (HW.out.grow HB4.out).bl
          clear HTW HASN HG HTS HOK HE HGF HCJ HRS HW
          go_wp2_with fail
          refine (Clone_any [g0] _ _ w4 HII.out (by simp)).mono ?_
          rintro e w5 ⟨s, rfl, hs, hb5⟩
          have HS := Lib.hid (owns_mono hs HBW.out.size)
          have HBE := Lib.hid (Below.andThen HBW.out hb5 (Nat.le_refl _))
          clear hs hb5
          go_wp2_with fail
          refine bodyPost_ret (v := .tuple #[s, .int .i64 (k : Int), .int .i64 0]) (by simp [results, Try.results26, go_sem]) rfl ⟨s, ?_, ?_, HBE.out⟩
          · rw [HT.out, List.length_take, Nat.min_eq_left hk]
          · rw [HT.out, HL.out]; exact HS.out
        | true =>
          obtain ⟨o1, o2, o3⟩ := HOK.out rfl
          have HAF := Lib.hid (fun W => after4 ((1 : Nat) : Int) p0 p1 p2 p3 g0 g1 g2 g3 px py HGF.out (by omega) (by omega) o1 W)
          obtain ⟨h0, h1, h2, h3, hh⟩ := agg4 (afterF [p0, p1, p2, p3] [g0, g1, g2, g3] px py) (by rw [afterF_len]; rfl)
          rw [hh] at HAF HG
          simp only [aggI, List.map_cons, List.map_nil, encI] at HAF
          have HSNO := Lib.hid (HASN.out HE.out)
          clear HTW HASN HOK HE HGF HCJ HRS o1 o2 o3 hh
          go_wp2_with fail
          refine (HAF.out w4).mono ?_
          rintro e w5 ⟨rfl, hb5⟩
          have HW5 := Lib.hid ((HW.out.grow HB4.out).grow hb5)
          clear hb5 HAF j0 j1 j2 j3 j4 q0 q1 q2 q3 s0 s1
          have hrow := HW5.out.f
          have q0 := hrow.cell 0
          have q1 := hrow.cell 1
          have q2 := hrow.cell 2
          have q3 := hrow.cell 3
          have z0 := frozen_of_row _ (w3.heap.size + 1) 0 _ _ hrow
          have z1 := frozen_of_row _ (w3.heap.size + 1) 1 _ _ hrow
          have z2 := frozen_of_row _ (w3.heap.size + 1) 2 _ _ hrow
          have z3 := frozen_of_row _ (w3.heap.size + 1) 3 _ _ hrow
          simp only [List.map_cons, List.map_nil, List.getElem?_cons_zero, List.getElem?_cons_succ, encI] at q0 q1 q2 q3
          clear hrow
          go_wp2_with fail
          go_roundw
          case rel => exact ⟨k + 1, by omega, by simp, by simp, by rw [HTS.out, HG.out]; exact Lib.hid (HW5.out.put g0 g1 g2 g3 h0 h1 h2 h3), HSNO⟩
          case measure => simp [intOf]; omega
      · have hd : decide ((k : Int) < (ps.length : Int)) = false := decide_eq_false (by omega)
        have hdn : decide (k < ps.length) = false := decide_eq_false hlt
        obtain rfl : k = ps.length := by omega
        have HT := Lib.hid (show ps.takeWhile (okP ((1 : Nat) : Int)) = ps from takeW_all (by have := HA.out; rwa [List.take_length] at this))
        have HA2 := HA.out
        rw [List.take_length] at HA2
        have HW2 := HW.out
        rw [List.take_length] at HW2
        have hgf : FitP [p0, p1, p2, p3] (goF [p0, p1, p2, p3] [f0, f1, f2, f3] ps) := fitp_goF (n := 1) (by omega) HFIT.out HA2
        obtain ⟨g0, g1, g2, g3, hgg⟩ := agg4 _ hgf.1
        have HL := Lib.hid (goF_eq hgg HPG.out HGL.out HA2)
        rw [hgg] at HW2
        have HW3 := Lib.hid HW2
        have HII := Lib.hid (ints_of_row HW2.f 1 (by simp))
        have j0 := HW2.j.cell 0
        have j1 := HW2.j.cell 1
        have j2 := HW2.j.cell 2
        have j3 := HW2.j.cell 3
        have j4 := HW2.j.cell 4
        simp only [List.map_cons, List.map_nil, List.getElem?_cons_zero, List.getElem?_cons_succ, encI] at j0 j1 j2 j3 j4
        clear hgf hgg HW2 HA2 HW HA
        go_wp2_with fail
        refine (Clone_any [g0] _ _ wr HII.out (by simp)).mono ?_
        rintro e w5 ⟨s, rfl, hs, hb5⟩
        have HS := Lib.hid (owns_mono hs HW3.out.bl.size)
        have HBE := Lib.hid (Below.andThen HW3.out.bl hb5 (Nat.le_refl _))
        clear hs hb5
        go_wp2_with fail
        refine bodyPost_ret (v := .tuple #[s, .int .i64 (ps.length : Int), .int .i64 0]) (by simp [results, Try.results26, go_sem]) rfl ⟨s, ?_, ?_, HBE.out⟩
        · rw [HT.out]
        · rw [HT.out, HL.out]; exact HS.out
  · go_enter Try.func26, Try.ntmps26
    go_wp2_with fail
    refine HC.out.mono ?_
    rintro e w1 ⟨rfl, hb⟩
    have HB1 := Lib.hid hb
    clear hb HC
    go_wp2_with fail
    refine (HJO.out w1 HB1.out).mono ?_
    rintro e w2 ⟨rfl, hb⟩
    have HB2 := Lib.hid (Below.andThen HB1.out hb (Nat.le_refl _))
    clear hb HJO HB1
    go_wp2_with fail
    refine (HFO.out w2 HB2.out).mono ?_
    rintro e w3 ⟨rfl, hb⟩
    have HB3 := Lib.hid (Below.andThen HB2.out hb (Nat.le_refl _))
    clear hb HFO HB2
    go_wp2_with fail
    have hst := pour_start w w3 2 [p0, p1, p2, p3] [f0, f1, f2, f3] HB3.out
    have HST := Lib.hid hst
    clear hst HB3
    go_loopw [12, 28] (fun dv iv wr => ∃ k : Nat, k ≤ ps.length ∧ dv = .int .i64 (k : Int) ∧ iv = .int .i64 (k : Int) ∧ Hid (PourW w wr w3.heap.size (w3.heap.size + 1) 2 [p0, p1, p2, p3] (goF [p0, p1, p2, p3] [f0, f1, f2, f3] (ps.take k))) ∧ Hid (∀ p ∈ ps.take k, okP ((2 : Nat) : Int) p = true)) (fun _ iv _ => (ps.length - intOf iv).toNat)
    case atStart => exact ⟨0, by omega, rfl, rfl, HST, Lib.hid (fun p hp => by simp at hp)⟩
    case round =>
      obtain ⟨k, hk, rfl, rfl, HW, HA⟩ := hrel
      have kw : IntKind.i64.wrap ((k : Int) + 1) = ((k + 1 : Nat) : Int) := by rw [i64_of _ (by omega) (by omega)]; omega
      by_cases hlt : k < ps.length
      · have hd : decide ((k : Int) < (ps.length : Int)) = true := decide_eq_true (by omega)
        have hdn : decide (k < ps.length) = true := decide_eq_true hlt
        obtain ⟨g, o, rfl, hps⟩ : ∃ g o, xa = some ⟨g, o, none⟩ ∧ PtsAt w g o ps := HXS.out.resolve_left (fun e => by rw [e] at hlt; simp at hlt)
        have hps2 := hps.grow HW.out.bl
        have c1 := hps2.x k hlt
        have c2 := hps2.y k hlt
        have HG := Lib.hid (goF_snoc [p0, p1, p2, p3] [f0, f1, f2, f3] (ps.take k) ps[k])
        have HTS := Lib.hid (show ps.take (k + 1) = ps.take k ++ [ps[k]] from List.take_succ_eq_append_getElem hlt)
        have HASN := Lib.hid (fun h => all_snoc (q := okP ((2 : Nat) : Int)) hlt HA.out h)
        have HTW := Lib.hid (fun h => takeW_at (q := okP ((2 : Nat) : Int)) hlt HA.out h)
        have hgf : FitP [p0, p1, p2, p3] (goF [p0, p1, p2, p3] [f0, f1, f2, f3] (ps.take k)) := fitp_goF (n := 2) (by omega) HFIT.out HA.out
        obtain ⟨g0, g1, g2, g3, hgg⟩ := agg4 _ hgf.1
        rw [hgg] at hgf HW HG
        have HGG := Lib.hid hgg
        have HGF := Lib.hid hgf
        clear hgg hgf hps hps2
        have hcj : ∀ W, Below wr.heap.size wr W → (W.cell? ⟨w3.heap.size, 0, none⟩ = some (.int .i64 2) ∧ W.cell? ⟨w3.heap.size, 1, none⟩ = some (.int .i64 p0) ∧ W.cell? ⟨w3.heap.size, 2, none⟩ = some (.int .i64 p1) ∧ W.cell? ⟨w3.heap.size, 3, none⟩ = some (.int .i64 p2) ∧ W.cell? ⟨w3.heap.size, 4, none⟩ = some (.int .i64 p3)) ∧
            (W.cell? ⟨w3.heap.size + 1, 0, none⟩ = some (.int .i64 g0) ∧ W.cell? ⟨w3.heap.size + 1, 1, none⟩ = some (.int .i64 g1) ∧ W.cell? ⟨w3.heap.size + 1, 2, none⟩ = some (.int .i64 g2) ∧ W.cell? ⟨w3.heap.size + 1, 3, none⟩ = some (.int .i64 g3)) := fun W hb => by
          have h1 := (HW.out.grow hb).j
          have h2 := (HW.out.grow hb).f
          exact ⟨⟨h1.cell 0, h1.cell 1, h1.cell 2, h1.cell 3, h1.cell 4⟩, h2.cell 0, h2.cell 1, h2.cell 2, h2.cell 3⟩
        have HCJ := Lib.hid hcj
        clear hcj
        obtain ⟨E, hE⟩ : ∃ E, okP ((2 : Nat) : Int) ps[k] = E := ⟨_, rfl⟩
        have HE := Lib.hid hE
        have hsb : stepB ((2 : Nat) : Int) ps[k].1 ps[k].2 = E := hE
        have HSB := Lib.hid (fun W => isStep_any ((2 : Nat) : Int) p0 p1 p2 p3 ps[k].1 ps[k].2 W)
        rw [hsb] at HSB
        clear hE hsb
        have HOK := Lib.hid (show E = true → ps[k].1 ≠ ps[k].2 ∧ (-1 ≤ ps[k].1 ∧ ps[k].1 < ((2 : Nat) : Int)) ∧ (-1 ≤ ps[k].2 ∧ ps[k].2 < ((2 : Nat) : Int)) from fun h => okP_iff.1 (HE.out.trans h))
        generalize ps[k].1 = px at *
        generalize ps[k].2 = py at *
        obtain ⟨⟨j0, j1, j2, j3, j4⟩, q0, q1, q2, q3⟩ := HCJ.out _ (Below.al (Below.refl wr.heap.size wr) (Nat.le_refl _) (.cells #[.int .i64 px, .int .i64 py] 48))
        go_wp2_with fail
        refine (HSB.out _).mono ?_
        rintro e w4 ⟨rfl, hb4⟩
        have rs := (Row.new wr 48 [.int .i64 px, .int .i64 py]).below hb4 (Row.new wr 48 [.int .i64 px, .int .i64 py]).lt
        have HB4 := Lib.hid (Below.andThen (Below.al (Below.refl wr.heap.size wr) (Nat.le_refl _) (.cells #[.int .i64 px, .int .i64 py] 48)) hb4 (Nat.le_refl _))
        have HRS := Lib.hid rs
        clear hb4 HSB j0 j1 j2 j3 j4 q0 q1 q2 q3 c1 c2 rs
        obtain ⟨⟨j0, j1, j2, j3, j4⟩, q0, q1, q2, q3⟩ := HCJ.out _ HB4.out
        have s0 := HRS.out.cell 0
        have s1 := HRS.out.cell 1
        simp only [List.getElem?_cons_zero, List.getElem?_cons_succ] at s0 s1
        cases E with
        | false =>
          have HT := Lib.hid (HTW.out HE.out)
          have HL := Lib.hid (goF_eq HGG.out HPG.out HGL.out HA.out)
          have HII := Lib.hid (ints_of_row (HW.out.grow HB4.out).f 2 (by simp))
          have HBW := Lib.hid (HW.out.grow HB4.out).bl
          clear HTW HASN HG HTS HOK HE HGF HCJ HRS HW
          go_wp2_with fail
          refine (Clone_any [g0, g1] _ _ w4 HII.out (by simp)).mono ?_
          rintro e w5 ⟨s, rfl, hs, hb5⟩
          have HS := Lib.hid (owns_mono hs HBW.out.size)
          have HBE := Lib.hid (Below.andThen HBW.out hb5 (Nat.le_refl _))
          clear hs hb5
          go_wp2_with fail
          refine bodyPost_ret (v := .tuple #[s, .int .i64 (k : Int), .int .i64 0]) (by simp [results, Try.results26, go_sem]) rfl ⟨s, ?_, ?_, HBE.out⟩
          · rw [HT.out, List.length_take, Nat.min_eq_left hk]
          · rw [HT.out, HL.out]; exact HS.out
        | true =>
          obtain ⟨o1, o2, o3⟩ := HOK.out rfl
          have HAF := Lib.hid (fun W => after4 ((2 : Nat) : Int) p0 p1 p2 p3 g0 g1 g2 g3 px py HGF.out (by omega) (by omega) o1 W)
          obtain ⟨h0, h1, h2, h3, hh⟩ := agg4 (afterF [p0, p1, p2, p3] [g0, g1, g2, g3] px py) (by rw [afterF_len]; rfl)
          rw [hh] at HAF HG
          simp only [aggI, List.map_cons, List.map_nil, encI] at HAF
          have HSNO := Lib.hid (HASN.out HE.out)
          clear HTW HASN HOK HE HGF HCJ HRS o1 o2 o3 hh
          go_wp2_with fail
          refine (HAF.out w4).mono ?_
          rintro e w5 ⟨rfl, hb5⟩
          have HW5 := Lib.hid ((HW.out.grow HB4.out).grow hb5)
          clear hb5 HAF j0 j1 j2 j3 j4 q0 q1 q2 q3 s0 s1
          have hrow := HW5.out.f
          have q0 := hrow.cell 0
          have q1 := hrow.cell 1
          have q2 := hrow.cell 2
          have q3 := hrow.cell 3
          have z0 := frozen_of_row _ (w3.heap.size + 1) 0 _ _ hrow
          have z1 := frozen_of_row _ (w3.heap.size + 1) 1 _ _ hrow
          have z2 := frozen_of_row _ (w3.heap.size + 1) 2 _ _ hrow
          have z3 := frozen_of_row _ (w3.heap.size + 1) 3 _ _ hrow
          simp only [List.map_cons, List.map_nil, List.getElem?_cons_zero, List.getElem?_cons_succ, encI] at q0 q1 q2 q3
          clear hrow
          go_wp2_with fail
          go_roundw
          case rel => exact ⟨k + 1, by omega, by simp, by simp, by rw [HTS.out, HG.out]; exact Lib.hid (HW5.out.put g0 g1 g2 g3 h0 h1 h2 h3), HSNO⟩
          case measure => simp [intOf]; omega
      · have hd : decide ((k : Int) < (ps.length : Int)) = false := decide_eq_false (by omega)
        have hdn : decide (k < ps.length) = false := decide_eq_false hlt
        obtain rfl : k = ps.length := by omega
        have HT := Lib.hid (show ps.takeWhile (okP ((2 : Nat) : Int)) = ps from takeW_all (by have := HA.out; rwa [List.take_length] at this))
        have HA2 := HA.out
        rw [List.take_length] at HA2
        have HW2 := HW.out
        rw [List.take_length] at HW2
        have hgf : FitP [p0, p1, p2, p3] (goF [p0, p1, p2, p3] [f0, f1, f2, f3] ps) := fitp_goF (n := 2) (by omega) HFIT.out HA2
        obtain ⟨g0, g1, g2, g3, hgg⟩ := agg4 _ hgf.1
        have HL := Lib.hid (goF_eq hgg HPG.out HGL.out HA2)
        rw [hgg] at HW2
        have HW3 := Lib.hid HW2
        have HII := Lib.hid (ints_of_row HW2.f 2 (by simp))
        have j0 := HW2.j.cell 0
        have j1 := HW2.j.cell 1
        have j2 := HW2.j.cell 2
        have j3 := HW2.j.cell 3
        have j4 := HW2.j.cell 4
        simp only [List.map_cons, List.map_nil, List.getElem?_cons_zero, List.getElem?_cons_succ, encI] at j0 j1 j2 j3 j4
        clear hgf hgg HW2 HA2 HW HA
        go_wp2_with fail
        refine (Clone_any [g0, g1] _ _ wr HII.out (by simp)).mono ?_
        rintro e w5 ⟨s, rfl, hs, hb5⟩
        have HS := Lib.hid (owns_mono hs HW3.out.bl.size)
        have HBE := Lib.hid (Below.andThen HW3.out.bl hb5 (Nat.le_refl _))
        clear hs hb5
        go_wp2_with fail
        refine bodyPost_ret (v := .tuple #[s, .int .i64 (ps.length : Int), .int .i64 0]) (by simp [results, Try.results26, go_sem]) rfl ⟨s, ?_, ?_, HBE.out⟩
        · rw [HT.out]
        · rw [HT.out, HL.out]; exact HS.out
  · go_enter Try.func26, Try.ntmps26
    go_wp2_with fail
    refine HC.out.mono ?_
    rintro e w1 ⟨rfl, hb⟩
    have HB1 := Lib.hid hb
    clear hb HC
    go_wp2_with fail
    refine (HJO.out w1 HB1.out).mono ?_
    rintro e w2 ⟨rfl, hb⟩
    have HB2 := Lib.hid (Below.andThen HB1.out hb (Nat.le_refl _))
    clear hb HJO HB1
    go_wp2_with fail
    refine (HFO.out w2 HB2.out).mono ?_
    rintro e w3 ⟨rfl, hb⟩
    have HB3 := Lib.hid (Below.andThen HB2.out hb (Nat.le_refl _))
    clear hb HFO HB2
    go_wp2_with fail
    have hst := pour_start w w3 3 [p0, p1, p2, p3] [f0, f1, f2, f3] HB3.out
    have HST := Lib.hid hst
    clear hst HB3
    go_loopw [12, 28] (fun dv iv wr => ∃ k : Nat, k ≤ ps.length ∧ dv = .int .i64 (k : Int) ∧ iv = .int .i64 (k : Int) ∧ Hid (PourW w wr w3.heap.size (w3.heap.size + 1) 3 [p0, p1, p2, p3] (goF [p0, p1, p2, p3] [f0, f1, f2, f3] (ps.take k))) ∧ Hid (∀ p ∈ ps.take k, okP ((3 : Nat) : Int) p = true)) (fun _ iv _ => (ps.length - intOf iv).toNat)
    case atStart => exact ⟨0, by omega, rfl, rfl, HST, Lib.hid (fun p hp => by simp at hp)⟩
    case round =>
      obtain ⟨k, hk, rfl, rfl, HW, HA⟩ := hrel
      have kw : IntKind.i64.wrap ((k : Int) + 1) = ((k + 1 : Nat) : Int) := by rw [i64_of _ (by omega) (by omega)]; omega
      by_cases hlt : k < ps.length
      · have hd : decide ((k : Int) < (ps.length : Int)) = true := decide_eq_true (by omega)
        have hdn : decide (k < ps.length) = true := decide_eq_true hlt
        obtain ⟨g, o, rfl, hps⟩ : ∃ g o, xa = some ⟨g, o, none⟩ ∧ PtsAt w g o ps := HXS.out.resolve_left (fun e => by rw [e] at hlt; simp at hlt)
        have hps2 := hps.grow HW.out.bl
        have c1 := hps2.x k hlt
        have c2 := hps2.y k hlt
        have HG := Lib.hid (goF_snoc [p0, p1, p2, p3] [f0, f1, f2, f3] (ps.take k) ps[k])
        have HTS := Lib.hid (show ps.take (k + 1) = ps.take k ++ [ps[k]] from List.take_succ_eq_append_getElem hlt)
        have HASN := Lib.hid (fun h => all_snoc (q := okP ((3 : Nat) : Int)) hlt HA.out h)
        have HTW := Lib.hid (fun h => takeW_at (q := okP ((3 : Nat) : Int)) hlt HA.out h)
        have hgf : FitP [p0, p1, p2, p3] (goF [p0, p1, p2, p3] [f0, f1, f2, f3] (ps.take k)) := fitp_goF (n := 3) (by omega) HFIT.out HA.out
        obtain ⟨g0, g1, g2, g3, hgg⟩ := agg4 _ hgf.1
        rw [hgg] at hgf HW HG
        have HGG := Lib.hid hgg
        have HGF := Lib.hid hgf
        clear hgg hgf hps hps2
        have hcj : ∀ W, Below wr.heap.size wr W → (W.cell? ⟨w3.heap.size, 0, none⟩ = some (.int .i64 3) ∧ W.cell? ⟨w3.heap.size, 1, none⟩ = some (.int .i64 p0) ∧ W.cell? ⟨w3.heap.size, 2, none⟩ = some (.int .i64 p1) ∧ W.cell? ⟨w3.heap.size, 3, none⟩ = some (.int .i64 p2) ∧ W.cell? ⟨w3.heap.size, 4, none⟩ = some (.int .i64 p3)) ∧
            (W.cell? ⟨w3.heap.size + 1, 0, none⟩ = some (.int .i64 g0) ∧ W.cell? ⟨w3.heap.size + 1, 1, none⟩ = some (.int .i64 g1) ∧ W.cell? ⟨w3.heap.size + 1, 2, none⟩ = some (.int .i64 g2) ∧ W.cell? ⟨w3.heap.size + 1, 3, none⟩ = some (.int .i64 g3)) := fun W hb => by
          have h1 := (HW.out.grow hb).j
          have h2 := (HW.out.grow hb).f
          exact ⟨⟨h1.cell 0, h1.cell 1, h1.cell 2, h1.cell 3, h1.cell 4⟩, h2.cell 0, h2.cell 1, h2.cell 2, h2.cell 3⟩
        have HCJ := Lib.hid hcj
        clear hcj
        obtain ⟨E, hE⟩ : ∃ E, okP ((3 : Nat) : Int) ps[k] = E := ⟨_, rfl⟩
        have HE := Lib.hid hE
        have hsb : stepB ((3 : Nat) : Int) ps[k].1 ps[k].2 = E := hE
        have HSB := Lib.hid (fun W => isStep_any ((3 : Nat) : Int) p0 p1 p2 p3 ps[k].1 ps[k].2 W)
        rw [hsb] at HSB
        clear hE hsb
        have HOK := Lib.hid (show E = true → ps[k].1 ≠ ps[k].2 ∧ (-1 ≤ ps[k].1 ∧ ps[k].1 < ((3 : Nat) : Int)) ∧ (-1 ≤ ps[k].2 ∧ ps[k].2 < ((3 : Nat) : Int)) from fun h => okP_iff.1 (HE.out.trans h))
        generalize ps[k].1 = px at *
        generalize ps[k].2 = py at *
        obtain ⟨⟨j0, j1, j2, j3, j4⟩, q0, q1, q2, q3⟩ := HCJ.out _ (Below.al (Below.refl wr.heap.size wr) (Nat.le_refl _) (.cells #[.int .i64 px, .int .i64 py] 48))
        go_wp2_with fail
        refine (HSB.out _).mono ?_
        rintro e w4 ⟨rfl, hb4⟩
        have rs := (Row.new wr 48 [.int .i64 px, .int .i64 py]).below hb4 (Row.new wr 48 [.int .i64 px, .int .i64 py]).lt
        have HB4 := Lib.hid (Below.andThen (Below.al (Below.refl wr.heap.size wr) (Nat.le_refl _) (.cells #[.int .i64 px, .int .i64 py] 48)) hb4 (Nat.le_refl _))
        have HRS := Lib.hid rs
        clear hb4 HSB j0 j1 j2 j3 j4 q0 q1 q2 q3 c1 c2 rs
        obtain ⟨⟨j0, j1, j2, j3, j4⟩, q0, q1, q2, q3⟩ := HCJ.out _ HB4.out
        have s0 := HRS.out.cell 0
        have s1 := HRS.out.cell 1
        simp only [List.getElem?_cons_zero, List.getElem?_cons_succ] at s0 s1
        cases E with
        | false =>
          have HT := Lib.hid (HTW.out HE.out)
          have HL := Lib.hid (goF_eq HGG.out HPG.out HGL.out HA.out)
          have HII := Lib.hid (ints_of_row (HW.out.grow HB4.out).f 3 (by simp))
          have HBW := Lib.hid (HW.out.grow HB4.out).bl
          clear HTW HASN HG HTS HOK HE HGF HCJ HRS HW
          go_wp2_with fail
          refine (Clone_any [g0, g1, g2] _ _ w4 HII.out (by simp)).mono ?_
          rintro e w5 ⟨s, rfl, hs, hb5⟩
          have HS := Lib.hid (owns_mono hs HBW.out.size)
          have HBE := Lib.hid (Below.andThen HBW.out hb5 (Nat.le_refl _))
          clear hs hb5
          go_wp2_with fail
          refine bodyPost_ret (v := .tuple #[s, .int .i64 (k : Int), .int .i64 0]) (by simp [results, Try.results26, go_sem]) rfl ⟨s, ?_, ?_, HBE.out⟩
          · rw [HT.out, List.length_take, Nat.min_eq_left hk]
          · rw [HT.out, HL.out]; exact HS.out
        | true =>
          obtain ⟨o1, o2, o3⟩ := HOK.out rfl
          have HAF := Lib.hid (fun W => after4 ((3 : Nat) : Int) p0 p1 p2 p3 g0 g1 g2 g3 px py HGF.out (by omega) (by omega) o1 W)
          obtain ⟨h0, h1, h2, h3, hh⟩ := agg4 (afterF [p0, p1, p2, p3] [g0, g1, g2, g3] px py) (by rw [afterF_len]; rfl)
          rw [hh] at HAF HG
          simp only [aggI, List.map_cons, List.map_nil, encI] at HAF
          have HSNO := Lib.hid (HASN.out HE.out)
          clear HTW HASN HOK HE HGF HCJ HRS o1 o2 o3 hh
          go_wp2_with fail
          refine (HAF.out w4).mono ?_
          rintro e w5 ⟨rfl, hb5⟩
          have HW5 := Lib.hid ((HW.out.grow HB4.out).grow hb5)
          clear hb5 HAF j0 j1 j2 j3 j4 q0 q1 q2 q3 s0 s1
          have hrow := HW5.out.f
          have q0 := hrow.cell 0
          have q1 := hrow.cell 1
          have q2 := hrow.cell 2
          have q3 := hrow.cell 3
          have z0 := frozen_of_row _ (w3.heap.size + 1) 0 _ _ hrow
          have z1 := frozen_of_row _ (w3.heap.size + 1) 1 _ _ hrow
          have z2 := frozen_of_row _ (w3.heap.size + 1) 2 _ _ hrow
          have z3 := frozen_of_row _ (w3.heap.size + 1) 3 _ _ hrow
          simp only [List.map_cons, List.map_nil, List.getElem?_cons_zero, List.getElem?_cons_succ, encI] at q0 q1 q2 q3
          clear hrow
          go_wp2_with fail
          go_roundw
          case rel => exact ⟨k + 1, by omega, by simp, by simp, by rw [HTS.out, HG.out]; exact Lib.hid (HW5.out.put g0 g1 g2 g3 h0 h1 h2 h3), HSNO⟩
          case measure => simp [intOf]; omega
      · have hd : decide ((k : Int) < (ps.length : Int)) = false := decide_eq_false (by omega)
        have hdn : decide (k < ps.length) = false := decide_eq_false hlt
        obtain rfl : k = ps.length := by omega
        have HT := Lib.hid (show ps.takeWhile (okP ((3 : Nat) : Int)) = ps from takeW_all (by have := HA.out; rwa [List.take_length] at this))
        have HA2 := HA.out
        rw [List.take_length] at HA2
        have HW2 := HW.out
        rw [List.take_length] at HW2
        have hgf : FitP [p0, p1, p2, p3] (goF [p0, p1, p2, p3] [f0, f1, f2, f3] ps) := fitp_goF (n := 3) (by omega) HFIT.out HA2
        obtain ⟨g0, g1, g2, g3, hgg⟩ := agg4 _ hgf.1
        have HL := Lib.hid (goF_eq hgg HPG.out HGL.out HA2)
        rw [hgg] at HW2
        have HW3 := Lib.hid HW2
        have HII := Lib.hid (ints_of_row HW2.f 3 (by simp))
        have j0 := HW2.j.cell 0
        have j1 := HW2.j.cell 1
        have j2 := HW2.j.cell 2
        have j3 := HW2.j.cell 3
        have j4 := HW2.j.cell 4
        simp only [List.map_cons, List.map_nil, List.getElem?_cons_zero, List.getElem?_cons_succ, encI] at j0 j1 j2 j3 j4
        clear hgf hgg HW2 HA2 HW HA
        go_wp2_with fail
        refine (Clone_any [g0, g1, g2] _ _ wr HII.out (by simp)).mono ?_
        rintro e w5 ⟨s, rfl, hs, hb5⟩
        have HS := Lib.hid (owns_mono hs HW3.out.bl.size)
        have HBE := Lib.hid (Below.andThen HW3.out.bl hb5 (Nat.le_refl _))
        clear hs hb5
        go_wp2_with fail
        refine bodyPost_ret (v := .tuple #[s, .int .i64 (ps.length : Int), .int .i64 0]) (by simp [results, Try.results26, go_sem]) rfl ⟨s, ?_, ?_, HBE.out⟩
        · rw [HT.out]
        · rw [HT.out, HL.out]; exact HS.out
  · go_enter Try.func26, Try.ntmps26
    go_wp2_with fail
    refine HC.out.mono ?_
    rintro e w1 ⟨rfl, hb⟩
    have HB1 := Lib.hid hb
    clear hb HC
    go_wp2_with fail
    refine (HJO.out w1 HB1.out).mono ?_
    rintro e w2 ⟨rfl, hb⟩
    have HB2 := Lib.hid (Below.andThen HB1.out hb (Nat.le_refl _))
    clear hb HJO HB1
    go_wp2_with fail
    refine (HFO.out w2 HB2.out).mono ?_
    rintro e w3 ⟨rfl, hb⟩
    have HB3 := Lib.hid (Below.andThen HB2.out hb (Nat.le_refl _))
    clear hb HFO HB2
    go_wp2_with fail
    have hst := pour_start w w3 4 [p0, p1, p2, p3] [f0, f1, f2, f3] HB3.out
    have HST := Lib.hid hst
    clear hst HB3
    go_loopw [12, 28] (fun dv iv wr => ∃ k : Nat, k ≤ ps.length ∧ dv = .int .i64 (k : Int) ∧ iv = .int .i64 (k : Int) ∧ Hid (PourW w wr w3.heap.size (w3.heap.size + 1) 4 [p0, p1, p2, p3] (goF [p0, p1, p2, p3] [f0, f1, f2, f3] (ps.take k))) ∧ Hid (∀ p ∈ ps.take k, okP ((4 : Nat) : Int) p = true)) (fun _ iv _ => (ps.length - intOf iv).toNat)
    case atStart => exact ⟨0, by omega, rfl, rfl, HST, Lib.hid (fun p hp => by simp at hp)⟩
    case round =>
      obtain ⟨k, hk, rfl, rfl, HW, HA⟩ := hrel
      have kw : IntKind.i64.wrap ((k : Int) + 1) = ((k + 1 : Nat) : Int) := by rw [i64_of _ (by omega) (by omega)]; omega
      by_cases hlt : k < ps.length
      · have hd : decide ((k : Int) < (ps.length : Int)) = true := decide_eq_true (by omega)
        have hdn : decide (k < ps.length) = true := decide_eq_true hlt
        obtain ⟨g, o, rfl, hps⟩ : ∃ g o, xa = some ⟨g, o, none⟩ ∧ PtsAt w g o ps := HXS.out.resolve_left (fun e => by rw [e] at hlt; simp at hlt)
        have hps2 := hps.grow HW.out.bl
        have c1 := hps2.x k hlt
        have c2 := hps2.y k hlt
        have HG := Lib.hid (goF_snoc [p0, p1, p2, p3] [f0, f1, f2, f3] (ps.take k) ps[k])
        have HTS := Lib.hid (show ps.take (k + 1) = ps.take k ++ [ps[k]] from List.take_succ_eq_append_getElem hlt)
        have HASN := Lib.hid (fun h => all_snoc (q := okP ((4 : Nat) : Int)) hlt HA.out h)
        have HTW := Lib.hid (fun h => takeW_at (q := okP ((4 : Nat) : Int)) hlt HA.out h)
        have hgf : FitP [p0, p1, p2, p3] (goF [p0, p1, p2, p3] [f0, f1, f2, f3] (ps.take k)) := fitp_goF (n := 4) (by omega) HFIT.out HA.out
        obtain ⟨g0, g1, g2, g3, hgg⟩ := agg4 _ hgf.1
        rw [hgg] at hgf HW HG
        have HGG := Lib.hid hgg
        have HGF := Lib.hid hgf
        clear hgg hgf hps hps2
        have hcj : ∀ W, Below wr.heap.size wr W → (W.cell? ⟨w3.heap.size, 0, none⟩ = some (.int .i64 4) ∧ W.cell? ⟨w3.heap.size, 1, none⟩ = some (.int .i64 p0) ∧ W.cell? ⟨w3.heap.size, 2, none⟩ = some (.int .i64 p1) ∧ W.cell? ⟨w3.heap.size, 3, none⟩ = some (.int .i64 p2) ∧ W.cell? ⟨w3.heap.size, 4, none⟩ = some (.int .i64 p3)) ∧
            (W.cell? ⟨w3.heap.size + 1, 0, none⟩ = some (.int .i64 g0) ∧ W.cell? ⟨w3.heap.size + 1, 1, none⟩ = some (.int .i64 g1) ∧ W.cell? ⟨w3.heap.size + 1, 2, none⟩ = some (.int .i64 g2) ∧ W.cell? ⟨w3.heap.size + 1, 3, none⟩ = some (.int .i64 g3)) := fun W hb => by
          have h1 := (HW.out.grow hb).j
          have h2 := (HW.out.grow hb).f
          exact ⟨⟨h1.cell 0, h1.cell 1, h1.cell 2, h1.cell 3, h1.cell 4⟩, h2.cell 0, h2.cell 1, h2.cell 2, h2.cell 3⟩
        have HCJ := Lib.hid hcj
        clear hcj
        obtain ⟨E, hE⟩ : ∃ E, okP ((4 : Nat) : Int) ps[k] = E := ⟨_, rfl⟩
        have HE := Lib.hid hE
        have hsb : stepB ((4 : Nat) : Int) ps[k].1 ps[k].2 = E := hE
        have HSB := Lib.hid (fun W => isStep_any ((4 : Nat) : Int) p0 p1 p2 p3 ps[k].1 ps[k].2 W)
        rw [hsb] at HSB
        clear hE hsb
        have HOK := Lib.hid (show E = true → ps[k].1 ≠ ps[k].2 ∧ (-1 ≤ ps[k].1 ∧ ps[k].1 < ((4 : Nat) : Int)) ∧ (-1 ≤ ps[k].2 ∧ ps[k].2 < ((4 : Nat) : Int)) from fun h => okP_iff.1 (HE.out.trans h))
        generalize ps[k].1 = px at *
        generalize ps[k].2 = py at *
        obtain ⟨⟨j0, j1, j2, j3, j4⟩, q0, q1, q2, q3⟩ := HCJ.out _ (Below.al (Below.refl wr.heap.size wr) (Nat.le_refl _) (.cells #[.int .i64 px, .int .i64 py] 48))
        go_wp2_with fail
        refine (HSB.out _).mono ?_
        rintro e w4 ⟨rfl, hb4⟩
        have rs := (Row.new wr 48 [.int .i64 px, .int .i64 py]).below hb4 (Row.new wr 48 [.int .i64 px, .int .i64 py]).lt
        have HB4 := Lib.hid (Below.andThen (Below.al (Below.refl wr.heap.size wr) (Nat.le_refl _) (.cells #[.int .i64 px, .int .i64 py] 48)) hb4 (Nat.le_refl _))
        have HRS := Lib.hid rs
        clear hb4 HSB j0 j1 j2 j3 j4 q0 q1 q2 q3 c1 c2 rs
        obtain ⟨⟨j0, j1, j2, j3, j4⟩, q0, q1, q2, q3⟩ := HCJ.out _ HB4.out
        have s0 := HRS.out.cell 0
        have s1 := HRS.out.cell 1
        simp only [List.getElem?_cons_zero, List.getElem?_cons_succ] at s0 s1
        cases E with
        | false =>
          have HT := Lib.hid (HTW.out HE.out)
          have HL := Lib.hid (goF_eq HGG.out HPG.out HGL.out HA.out)
          have HII := Lib.hid (ints_of_row (HW.out.grow HB4.out).f 4 (by simp))
          have HBW := Lib.hid (HW.out.grow HB4.out).bl
          clear HTW HASN HG HTS HOK HE HGF HCJ HRS HW
          go_wp2_with fail
          refine (Clone_any [g0, g1, g2, g3] _ _ w4 HII.out (by simp)).mono ?_
          rintro e w5 ⟨s, rfl, hs, hb5⟩
          have HS := Lib.hid (owns_mono hs HBW.out.size)
          have HBE := Lib.hid (Below.andThen HBW.out hb5 (Nat.le_refl _))
          clear hs hb5
          go_wp2_with fail
          refine bodyPost_ret (v := .tuple #[s, .int .i64 (k : Int), .int .i64 0]) (by simp [results, Try.results26, go_sem]) rfl ⟨s, ?_, ?_, HBE.out⟩
          · rw [HT.out, List.length_take, Nat.min_eq_left hk]
          · rw [HT.out, HL.out]; exact HS.out
        | true =>
          obtain ⟨o1, o2, o3⟩ := HOK.out rfl
          have HAF := Lib.hid (fun W => after4 ((4 : Nat) : Int) p0 p1 p2 p3 g0 g1 g2 g3 px py HGF.out (by omega) (by omega) o1 W)
          obtain ⟨h0, h1, h2, h3, hh⟩ := agg4 (afterF [p0, p1, p2, p3] [g0, g1, g2, g3] px py) (by rw [afterF_len]; rfl)
          rw [hh] at HAF HG
          simp only [aggI, List.map_cons, List.map_nil, encI] at HAF
          have HSNO := Lib.hid (HASN.out HE.out)
          clear HTW HASN HOK HE HGF HCJ HRS o1 o2 o3 hh
          go_wp2_with fail
          refine (HAF.out w4).mono ?_
          rintro e w5 ⟨rfl, hb5⟩
          have HW5 := Lib.hid ((HW.out.grow HB4.out).grow hb5)
          clear hb5 HAF j0 j1 j2 j3 j4 q0 q1 q2 q3 s0 s1
          have hrow := HW5.out.f
          have q0 := hrow.cell 0
          have q1 := hrow.cell 1
          have q2 := hrow.cell 2
          have q3 := hrow.cell 3
          have z0 := frozen_of_row _ (w3.heap.size + 1) 0 _ _ hrow
          have z1 := frozen_of_row _ (w3.heap.size + 1) 1 _ _ hrow
          have z2 := frozen_of_row _ (w3.heap.size + 1) 2 _ _ hrow
          have z3 := frozen_of_row _ (w3.heap.size + 1) 3 _ _ hrow
          simp only [List.map_cons, List.map_nil, List.getElem?_cons_zero, List.getElem?_cons_succ, encI] at q0 q1 q2 q3
          clear hrow
          go_wp2_with fail
          go_roundw
          case rel => exact ⟨k + 1, by omega, by simp, by simp, by rw [HTS.out, HG.out]; exact Lib.hid (HW5.out.put g0 g1 g2 g3 h0 h1 h2 h3), HSNO⟩
          case measure => simp [intOf]; omega
      · have hd : decide ((k : Int) < (ps.length : Int)) = false := decide_eq_false (by omega)
        have hdn : decide (k < ps.length) = false := decide_eq_false hlt
        obtain rfl : k = ps.length := by omega
        have HT := Lib.hid (show ps.takeWhile (okP ((4 : Nat) : Int)) = ps from takeW_all (by have := HA.out; rwa [List.take_length] at this))
        have HA2 := HA.out
        rw [List.take_length] at HA2
        have HW2 := HW.out
        rw [List.take_length] at HW2
        have hgf : FitP [p0, p1, p2, p3] (goF [p0, p1, p2, p3] [f0, f1, f2, f3] ps) := fitp_goF (n := 4) (by omega) HFIT.out HA2
        obtain ⟨g0, g1, g2, g3, hgg⟩ := agg4 _ hgf.1
        have HL := Lib.hid (goF_eq hgg HPG.out HGL.out HA2)
        rw [hgg] at HW2
        have HW3 := Lib.hid HW2
        have HII := Lib.hid (ints_of_row HW2.f 4 (by simp))
        have j0 := HW2.j.cell 0
        have j1 := HW2.j.cell 1
        have j2 := HW2.j.cell 2
        have j3 := HW2.j.cell 3
        have j4 := HW2.j.cell 4
        simp only [List.map_cons, List.map_nil, List.getElem?_cons_zero, List.getElem?_cons_succ, encI] at j0 j1 j2 j3 j4
        clear hgf hgg HW2 HA2 HW HA
        go_wp2_with fail
        refine (Clone_any [g0, g1, g2, g3] _ _ wr HII.out (by simp)).mono ?_
        rintro e w5 ⟨s, rfl, hs, hb5⟩
        have HS := Lib.hid (owns_mono hs HW3.out.bl.size)
        have HBE := Lib.hid (Below.andThen HW3.out.bl hb5 (Nat.le_refl _))
        clear hs hb5
        go_wp2_with fail
        refine bodyPost_ret (v := .tuple #[s, .int .i64 (ps.length : Int), .int .i64 0]) (by simp [results, Try.results26, go_sem]) rfl ⟨s, ?_, ?_, HBE.out⟩
        · rw [HT.out]
        · rw [HT.out, HL.out]; exact HS.out
end Go.Proofs.Ytlamppplnojpbaa
