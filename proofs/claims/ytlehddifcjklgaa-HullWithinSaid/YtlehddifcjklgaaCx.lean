import Derived.Test.YtlehddifcjklgaaCw
import Derived.Test.YtlehddifcjklgaaCu
import Derived.Maps.OwnIn
import Derived.Maps.OwnSet
import Derived.Maps.AppendAt
import Derived.RangeFuncNested
import Derived.RangeFuncBound
import Derived.RangeFuncCalls
import Derived.RangeFuncLeaves
import Derived.Shelf.Abstract
import Derived.Shelf.RegionOpen
import Derived.WalkKit
import Derived.OwnWalkIn
import Derived.TacticsInMore
import Derived.LoopNIn
import Derived.LoopIn
import Derived.WalkMore
import Derived.Sort.QuietThIn
import Derived.Sort.QuietTacIn
import Derived.Sort.BigQuietIn
import Derived.WalkSpells
import Derived.WalkLawsBesides
import Derived.BigQuiet
import Derived.Deep.QuietTactic
import Derived.Lib.Hide
import Derived.Deep.RegionHeld3
import Derived.StillTailTactics
import Derived.Deep.LoopGhost
import Derived.Lib.IndexAny
namespace Go.Proofs.Ytlehddifcjklgaa
open Go.RowKit Go.Shelf
attribute [local go_sem] Oper.semAt_some
/-- the side onto which a hull rolls from one that is no rest -/
def stepF (ps : List Pt) (m : Int × Int × Int) (s : Nat) : Nat := if footA ps m s < 0 then (s + ps.length - 1) % ps.length else (s + 1) % ps.length
inductive RollD (ps : List Pt) (m : Int × Int × Int) : Nat → List Nat → Prop
  | stop {s : Nat} : s < ps.length → restB ps m s = true → RollD ps m s [s]
  | step {s : Nat} {T : List Nat} : s < ps.length → restB ps m s = false → Low ps m (stepF ps m s) s → RollD ps m (stepF ps m s) T → RollD ps m s (s :: T)
theorem rollD_ex {ps : List Pt} (hc : chk ps = true) : ∀ (f s : Nat), s < ps.length → rank ps (mid ps) s < f → ∃ T : List Nat, rollF ps (mid ps) f s = some (T.map Int.ofNat) ∧ RollD ps (mid ps) s T ∧ T.length ≤ f
  | 0, _, _, h => by omega
  | f + 1, s, hs, h => by
    have h3 := (areP_len (chk_areP hc)).1
    have hd := footD_pos hc hs
    have hr := rest_eq (m := mid ps) hd
    have hall : ∀ i, i < ps.length → 0 < dt (alongS ps i) (alongS ps i) := fun i hi => along_pos hc hi
    unfold rollF
    rw [foot_def, less0 hd, less1 hd]
    by_cases h1 : footA ps (mid ps) s < 0
    · have hl := low_prev hc hs h1
      have hst : stepF ps (mid ps) s = (s + ps.length - 1) % ps.length := if_pos h1
      have hj : (s + ps.length - 1) % ps.length < ps.length := Nat.mod_lt _ (by omega)
      obtain ⟨T, e1, e2, e3⟩ := rollD_ex hc f _ hj (by have := rank_lt hall hj hs hl; omega)
      refine ⟨s :: T, ?_, RollD.step hs (by rw [hr]; simp; omega) (by rw [hst]; exact hl) (by rw [hst]; exact e2), by simp; omega⟩
      rw [if_pos (decide_eq_true h1), e1]; rfl
    · rw [if_neg (by simp; omega)]
      by_cases h2 : footD ps (mid ps) s < footA ps (mid ps) s
      · have hl := low_next hc hs h2
        have hst : stepF ps (mid ps) s = (s + 1) % ps.length := if_neg h1
        have hj : (s + 1) % ps.length < ps.length := Nat.mod_lt _ (by omega)
        obtain ⟨T, e1, e2, e3⟩ := rollD_ex hc f _ hj (by have := rank_lt hall hj hs hl; omega)
        refine ⟨s :: T, ?_, RollD.step hs (by rw [hr]; simp; omega) (by rw [hst]; exact hl) (by rw [hst]; exact e2), by simp; omega⟩
        rw [if_pos (decide_eq_true h2), e1]; rfl
      · rw [if_neg (by simp; omega)]
        exact ⟨[s], rfl, RollD.stop hs (by rw [hr]; simp; omega), by simp⟩
theorem rollD_all {ps : List Pt} (hc : chk ps = true) {s : Nat} (hs : s < ps.length) : ∃ T : List Nat, rollF ps (mid ps) ps.length s = some (T.map Int.ofNat) ∧ RollD ps (mid ps) s T ∧ T.length ≤ ps.length :=
  rollD_ex hc _ s hs (rank_le ps (mid ps) hs)
theorem RollD.head {ps : List Pt} {m : Int × Int × Int} {s : Nat} {T : List Nat} (h : RollD ps m s T) : s < ps.length ∧ ∃ R, T = s :: R := by
  cases h with
  | stop h1 _ => exact ⟨h1, [], rfl⟩
  | step h1 _ _ _ => exact ⟨h1, _, rfl⟩
theorem RollD.rest {ps : List Pt} {m : Int × Int × Int} {s : Nat} {T : List Nat} (h : RollD ps m s T) : (restB ps m s = true ∧ T = [s]) ∨ (restB ps m s = false ∧ ∃ R, T = s :: R ∧ Low ps m (stepF ps m s) s ∧ RollD ps m (stepF ps m s) R) := by
  cases h with
  | stop _ h2 => exact .inl ⟨h2, rfl⟩
  | step _ h2 h3 h4 => exact .inr ⟨h2, _, rfl, h3, h4⟩
theorem lean_parts {ps : List Pt} (hc : chk ps = true) {s : Nat} (hs : s < ps.length) : 0 ≤ (leanF ps (mid ps) s).1 ∧ (leanF ps (mid ps) s).1 ≤ 943718400000000 ∧ 0 < (leanF ps (mid ps) s).2 ∧ (leanF ps (mid ps) s).2 ≤ 294912000000 := by
  have hS := along_pos hc hs
  have hD := mid_D hc
  have hD2 := mid_D_le hc
  have hb := height_parts hc hs
  obtain ⟨g, hg, e1, e2, e3, _⟩ := frac_spec (n := heightH ps (mid ps) s * heightH ps (mid ps) s) hS
  have e4 : 0 ≤ (height ps (mid ps) s).1 := by
    refine Int.nonneg_of_mul_nonneg_right (a := g) ?_ hg
    have : g * (height ps (mid ps) s).1 = heightH ps (mid ps) s * heightH ps (mid ps) s := e1.symm
    rw [this]; exact sq_nonneg _
  have e5 : 0 < (height ps (mid ps) s).2 := e3
  have q1 : (height ps (mid ps) s).2 * (mid ps).2.2 ≤ 3200 * 9600 := Int.mul_le_mul hb.2.2 hD2 (by omega) (by omega)
  have q2 : (height ps (mid ps) s).2 * (mid ps).2.2 * (mid ps).2.2 ≤ 3200 * 9600 * 9600 := Int.mul_le_mul q1 hD2 (by omega) (by omega)
  have q0 := Int.mul_pos (Int.mul_pos e5 hD) hD
  obtain ⟨k, hk, f1, f2, f3, _⟩ := frac_spec (n := (height ps (mid ps) s).1) q0
  have f1' : (height ps (mid ps) s).1 = k * (leanF ps (mid ps) s).1 := f1
  have f2' : (height ps (mid ps) s).2 * (mid ps).2.2 * (mid ps).2.2 = k * (leanF ps (mid ps) s).2 := f2
  have f3' : 0 < (leanF ps (mid ps) s).2 := f3
  have f4 : 0 ≤ (leanF ps (mid ps) s).1 := Int.nonneg_of_mul_nonneg_right (a := k) (by rw [← f1']; exact e4) hk
  have g1 : 1 * (leanF ps (mid ps) s).1 ≤ k * (leanF ps (mid ps) s).1 := Int.mul_le_mul_of_nonneg_right (by omega) f4
  have g2 : 1 * (leanF ps (mid ps) s).2 ≤ k * (leanF ps (mid ps) s).2 := Int.mul_le_mul_of_nonneg_right (by omega) (by omega)
  have hb1 := hb.1.2
  omega
set_option maxRecDepth 100000 in
set_option maxHeartbeats 1000000 in
theorem rLowest_any (ps : List Pt) (b c : Nat) (w : World) (hp : PtsAt w b 0 ps) (hck : chk ps = true) :
    Calls Try.prog 39 #[.slice (some ⟨b, 0, none⟩) ps.length c] w fun e w' => e = .returned (.int .i64 ((lowN ps (mid ps) ps.length : Nat) : Int)) ∧ Below w.heap.size w w' := by
  have ha := chk_areP hck
  have hA := chk_area hck
  obtain ⟨h3, h12⟩ := areP_len ha
  have HL := Lib.hid (fun W s (hs : s < ps.length) (h : PtsAt W b 0 ps) => rLean_any ps b c s W h hck hs)
  have HPR := Lib.hid (fun s (hs : s < ps.length) => lean_parts hck hs)
  have HLE := Lib.hid (fun s t (hs : s < ps.length) (ht : t < ps.length) => low_lean (m := mid ps) (mid_D hck) (along_pos hck hs) (along_pos hck ht))
  have HP := Lib.hid hp
  generalize mid ps = m at *
  clear hp hck ha hA
  have hl1 : lowN ps m 1 = 0 := by unfold lowN; split <;> rfl
  go_enter Try.func39, Try.ntmps39
  go_wp2_with fail
  go_loopw [3, 4] (fun l i wr => ∃ k : Nat, 1 ≤ k ∧ k ≤ ps.length ∧ i = .int .i64 (k : Int) ∧ Hid (l = .int .i64 ((lowN ps m k : Nat) : Int)) ∧ Hid (Below w.heap.size w wr)) (fun _ i _ => ps.length - (intOf i).toNat)
  case atStart => exact ⟨1, by omega, by omega, rfl, Lib.hid (by rw [hl1]; rfl), Lib.hid (Below.refl _ _)⟩
  case round =>
    obtain ⟨k, hk1, hk, rfl, HL', HB⟩ := hrel
    have hl := HL'.out
    by_cases hlt : k < ps.length
    · have hd : decide ((k : Int) < (ps.length : Int)) = true := by simp; omega
      have hll := lowN_lt' ps m k ps.length hlt
      have HS := Lib.hid (show lowN ps m (k + 1) = if Low ps m k (lowN ps m k) then k else lowN ps m k from rfl)
      generalize lowN ps m k = L at *
      subst hl
      have HLK := Lib.hid (HLE.out k L hlt hll)
      have HC1 := Lib.hid (fun W h => HL.out W k hlt h)
      have HC2 := Lib.hid (fun W h => HL.out W L hll h)
      have p1 := HPR.out k hlt
      have p2 := HPR.out L hll
      obtain ⟨⟨a1, a2⟩, ha⟩ : ∃ v, leanF ps m k = v := ⟨_, rfl⟩
      obtain ⟨⟨c1, c2⟩, hc⟩ : ∃ v, leanF ps m L = v := ⟨_, rfl⟩
      rw [ha] at HC1 p1 HLK
      rw [hc] at HC2 p2 HLK
      dsimp only at HC1 HC2 p1 p2
      have HC3 := Lib.hid (fun W => rLess_any _ a1 a2 c1 c2 W (Nat.le_refl _) p1.1 (by omega) p1.2.2.1 (by omega) p2.1 (by omega) p2.2.2.1 (by omega))
      rw [HLK.out] at HC3
      clear ha hc p1 p2 HLK HL'
      go_wp2_with fail
      refine (HC1.out wr (HP.out.grow HB.out)).mono ?_
      rintro e w1 ⟨rfl, hb⟩
      have T1 := Lib.hid (Below.andThen HB.out hb (Nat.le_refl _))
      clear hb HB HC1
      go_wp2_with fail
      refine (HC2.out w1 (HP.out.grow T1.out)).mono ?_
      rintro e w2 ⟨rfl, hb⟩
      have T2 := Lib.hid (Below.andThen T1.out hb (Nat.le_refl _))
      clear hb T1 HC2
      go_wp2_with fail
      refine (HC3.out w2).mono ?_
      rintro e w3 ⟨rfl, hb⟩
      have T3 := Lib.hid (Below.andThen T2.out hb (Nat.le_refl _))
      clear hb T2 HC3
      by_cases hlow : Low ps m k L
      · have dl : decide (Low ps m k L) = true := decide_eq_true hlow
        have E1 := Lib.hid (show lowN ps m (k + 1) = k by rw [HS.out, if_pos hlow])
        rw [dl]
        clear dl hlow HS
        go_wp2_with fail
        refine ⟨⟨k + 1, by omega, by omega, by simp, Lib.hid (by rw [E1.out]), T3⟩, ?_⟩
        simp [intOf]; omega
      · have dl : decide (Low ps m k L) = false := decide_eq_false hlow
        have E1 := Lib.hid (show lowN ps m (k + 1) = L by rw [HS.out, if_neg hlow])
        rw [dl]
        clear dl hlow HS
        go_wp2_with fail
        refine ⟨⟨k + 1, by omega, by omega, by simp, Lib.hid (by rw [E1.out]), T3⟩, ?_⟩
        simp [intOf]; omega
    · have hd : decide ((k : Int) < (ps.length : Int)) = false := by simp; omega
      obtain rfl : k = ps.length := by omega
      subst hl
      go_wp2_with fail
      go_ret
      exact ⟨rfl, HB.out⟩
set_option maxRecDepth 100000 in
set_option maxHeartbeats 1000000 in
theorem rRoll_any (ps : List Pt) (b c s : Nat) (T : List Nat) (w : World) (hp : PtsAt w b 0 ps) (hck : chk ps = true) (hT : RollD ps (mid ps) s T) (hTl : T.length ≤ 12) :
    Calls Try.prog 37 #[.slice (some ⟨b, 0, none⟩) ps.length c, .int .i64 (s : Int)] w fun e w' => ∃ v, e = .returned v ∧ w'.ownsRow w.heap.size 3 1 v T.length ((T.map Int.ofNat).map encI) ∧ Below w.heap.size w w' := by
  have ha := chk_areP hck
  have hA := chk_area hck
  obtain ⟨h3, h12⟩ := areP_len ha
  obtain ⟨i0, hi, hz0, hz1, hz2⟩ := info_parts info3
  have HRM := Lib.hid (fun W (h : PtsAt W b 0 ps) => rMiddle_any ps b c W h ha hA)
  go_enter Try.func37, Try.ntmps37
  go_wp2_with fail
  have HPW := Lib.hid hp
  obtain ⟨W0, hW0⟩ : ∃ W0, W0 = w.alloc (.cells #[.int .i64 (s : Int)] 3) := ⟨_, rfl⟩
  have B0 := Lib.hid (show Below w.heap.size w W0 by rw [hW0]; exact (Below.refl _ _).alloc (Nat.le_refl _) _)
  have o0 := Lib.hid (show W0.ownsRow w.heap.size 3 1 (.slice (some ⟨w.heap.size, 0, none⟩) 1 1) 1 ([(s : Int)].map encI) by
    rw [hW0]; exact ⟨rfl, .inr ⟨_, 1, _, rfl, Nat.le_refl _, Row.new w 3 [.int .i64 (s : Int)], Nat.le_refl _, by unfold maxLen; omega, rfl, rfl⟩⟩)
  have HP0 := Lib.hid (hp.grow B0.out)
  rw [← hW0]
  clear hW0
  refine (HRM.out W0 HP0.out).mono ?_
  rintro e w1 ⟨rfl, hb⟩
  obtain ⟨m1, m2, m3, m4⟩ := mid_facts ha hA
  have HR := Lib.hid (fun W s (h : PtsAt W b 0 ps) (hs : s < ps.length) => (show Calls Try.prog 81 #[.slice (some ⟨b, 0, none⟩) ps.length c, .int .i64 (s : Int), .bool false] W fun e w' => e = .returned (.bool (restB ps (mid ps) s)) ∧ Below W.heap.size W w' from rRest_any ps b c s false W h hck hs))
  have HE := Lib.hid (fun W s (h : PtsAt W b 0 ps) (hs : s < ps.length) => rEnds_any ps b c s W h h12 hs)
  have HBD := Lib.hid (fun k (hk : k < ps.length) => And.intro (ptAt_bd ha hk) (nx_bd ha hk))
  have HAL := Lib.hid (fun s => al_first ps (mid ps) s)
  obtain ⟨X, hX⟩ : ∃ v, (mid ps).1 = v := ⟨_, rfl⟩
  obtain ⟨Y, hY⟩ : ∃ v, (mid ps).2.1 = v := ⟨_, rfl⟩
  obtain ⟨D, hDD⟩ : ∃ v, (mid ps).2.2 = v := ⟨_, rfl⟩
  have hmid : mid ps = (X, Y, D) := by rw [← hX, ← hY, ← hDD]
  rw [hX, hY, hDD]
  rw [hX] at m1
  rw [hY] at m2
  rw [hDD] at m3
  rw [hmid] at HAL HR
  rw [hmid] at hT
  have HT := Lib.hid hT
  have HAA := Lib.hid (fun W a1 a2 b1 b2 (h1 : Bd 20 a1) (h2 : Bd 20 a2) (h3 : Bd 20 b1) (h4 : Bd 20 b2) => rAlong_any X Y D a1 a2 b1 b2 W m1 m2 m3 h1 h2 h3 h4)
  obtain ⟨W1, hW1⟩ : ∃ W1, W1 = w1.alloc (.cells #[.int .i64 X, .int .i64 Y, .int .i64 D] 29) := ⟨_, rfl⟩
  have B1 := Lib.hid (show Below W0.heap.size W0 W1 by rw [hW1]; exact Below.al hb (Nat.le_refl _) _)
  have T1 := Lib.hid (Below.andThen B0.out B1.out (Nat.le_refl _))
  have o1 := Lib.hid (own_grow o0.out B1.out)
  have r1 := Lib.hid (show Row W1 w1.heap.size 29 [.int .i64 X, .int .i64 Y, .int .i64 D] by rw [hW1]; exact Row.new _ _ _)
  have HP1 := Lib.hid (hp.grow T1.out)
  clear hb HRM o0 HP0 B1 hX hY hDD hmid m1 m2 m3 m4 hT ha hA hck hp
  go_wp2_with fail
  rw [← hW1]
  clear hW1
  go_loopw [1, 5] (fun i v wr => ∃ (t : Nat) (dn R : List Nat), i = .int .i64 (t : Int) ∧ Hid (RollD ps (X, Y, D) t R) ∧ Hid (T = dn ++ R) ∧ Hid (wr.ownsRow w.heap.size 3 1 v (dn.length + 1) ((dn.map Int.ofNat ++ [(t : Int)]).map encI)) ∧ Hid (Row wr w1.heap.size 29 [.int .i64 X, .int .i64 Y, .int .i64 D] ∧ w.heap.size ≤ wr.heap.size) ∧ Hid (PtsAt wr b 0 ps) ∧ Hid (Below w.heap.size w wr)) (fun _ v _ => 13 - lenOfV v)
  case atStart => exact ⟨s, [], T, rfl, HT, Lib.hid rfl, o1, Lib.hid ⟨r1.out, T1.out.size⟩, HP1, T1⟩
  case round =>
    clear o1 r1 HP1 T1 HT
    obtain ⟨t, dn, R, rfl, HD, HTT, HO, HRW, HPP, HB⟩ := hrel
    have htn := HD.out.head.1
    have hlen : dn.length + R.length ≤ 12 := by have := HTT.out; rw [this, List.length_append] at hTl; exact hTl
    rcases HD.out.rest with ⟨hr, hR⟩ | ⟨hr, R', hR, hlow, hD'⟩
    · have HRR := Lib.hid hR
      have HR1 := HR.out wr t HPP.out htn
      rw [hr] at HR1
      clear hr hR
      go_wp2_with fail
      refine HR1.mono ?_
      rintro e w2 ⟨rfl, hb⟩
      have T2 := Lib.hid (Below.andThen HB.out hb (Nat.le_refl _))
      have O2 := Lib.hid (own_grow HO.out hb)
      clear hb HR1
      go_wp2_with fail
      go_ret
      refine ⟨_, rfl, ?_, T2.out⟩
      have e1 : T = dn ++ [t] := by rw [HTT.out, HRR.out]
      have h := O2.out
      rw [e1, List.length_append, List.map_append]
      exact h
    · have HRR := Lib.hid hR
      have HD2 := Lib.hid hD'
      have HR1 := HR.out wr t HPP.out htn
      rw [hr] at HR1
      have hb12 := HBD.out t htn
      have hal := HAL.out t
      have HEE := Lib.hid (fun W h => HE.out W t h htn)
      have hst : stepF ps (X, Y, D) t = if footA ps (X, Y, D) t < 0 then (t + ps.length - 1) % ps.length else (t + 1) % ps.length := rfl
      generalize ptAt ps t = p at *
      generalize nx ps t = q at *
      obtain ⟨p1, p2⟩ := p
      obtain ⟨q1, q2⟩ := q
      dsimp only at hb12 HEE
      have O1 := Lib.hid (fun W => HAA.out W p1 p2 q1 q2 hb12.1.1 hb12.1.2 hb12.2.1 hb12.2.2)
      rw [hal] at O1
      obtain ⟨A, hA⟩ : ∃ A, footA ps (X, Y, D) t = A := ⟨_, rfl⟩
      rw [hA] at O1 hst
      have hlR : R'.length + 1 = R.length := by rw [hR]; rfl
      have hR1 : 1 ≤ R'.length := by obtain ⟨_, R2, h2⟩ := hD'.head; rw [h2]; simp
      clear hr hR hlow hD' hb12 hal hA HD
      go_wp2_with fail
      refine HR1.mono ?_
      rintro e w2 ⟨rfl, hb⟩
      have HB2 := Lib.hid (Below.andThen HB.out hb (Nat.le_refl _))
      have HO2 := Lib.hid (own_grow HO.out hb)
      have HRW2 := Lib.hid (HRW.out.1.below hb HRW.out.1.lt)
      have HP2 := Lib.hid (HPP.out.grow hb)
      clear hb HR1 HB HO HRW HPP
      go_wp2_with fail
      refine (HEE.out w2 HP2.out).mono ?_
      rintro e w3 ⟨rfl, hb⟩
      obtain ⟨V, hV, ⟨r1, r2⟩, hbv⟩ := two_pts (W := w3) p1 p2 q1 q2
      have hb3 := Below.andThen hb hbv (Nat.le_refl _)
      have HB3 := Lib.hid (Below.andThen HB2.out hb3 (Nat.le_refl _))
      have HO3 := Lib.hid (own_grow HO2.out hb3)
      have HRW3 := Lib.hid (HRW2.out.below hb3 HRW2.out.lt)
      have HP3 := Lib.hid (HP2.out.grow hb3)
      have c0 := r1.cell 0
      have c1 := r1.cell 1
      have c2 := r2.cell 0
      have c3 := r2.cell 1
      have c4 := HRW3.out.cell 0
      have c5 := HRW3.out.cell 1
      have c6 := HRW3.out.cell 2
      simp only [List.getElem?_cons_zero, List.getElem?_cons_succ] at c0 c1 c2 c3 c4 c5 c6
      rw [hV] at c0 c1 c2 c3 c4 c5 c6
      clear hb hbv hb3 r1 r2 HB2 HO2 HRW2 HP2 HEE
      go_wp2_with fail
      rw [← hV]
      clear hV c0 c1 c2 c3 c4 c5 c6
      refine (O1.out V).mono ?_
      rintro e w4 ⟨rfl, hb⟩
      have HB4 := Lib.hid (Below.andThen HB3.out hb (Nat.le_refl _))
      have HO4 := Lib.hid (own_grow HO3.out hb)
      have HRW4 := Lib.hid (HRW3.out.below hb HRW3.out.lt)
      have HP4 := Lib.hid (HP3.out.grow hb)
      clear hb HB3 HO3 HRW3 HP3 O1
      have z1 : ¬ ((ps.length : Int) = 0) := by omega
      have z2 : ¬ (ps.length = 0) := by omega
      have z3 : ¬ (ps = []) := fun h => by subst h; simp at htn
      by_cases hA0 : A < 0
      · have d1 : decide (A < 0) = true := decide_eq_true hA0
        rw [if_pos hA0] at hst
        obtain ⟨z, hz⟩ : ∃ z, (t + ps.length - 1) % ps.length = z := ⟨_, rfl⟩
        have ez2 : ((t : Int) + (ps.length : Int) - 1) % (ps.length : Int) = (z : Int) := by
          rw [← hz, Int.natCast_emod]; congr 1; omega
        have ez1 : ((t : Int) + (ps.length : Int) - 1).tmod (ps.length : Int) = (z : Int) := by
          rw [Int.tmod_eq_emod_of_nonneg (by omega)]; exact ez2
        have w2' : IntKind.i64.wrap ((t : Int) + (ps.length : Int)) = (t : Int) + (ps.length : Int) := i64_of _ (by omega) (by omega)
        have w3' : IntKind.i64.wrap ((t : Int) + (ps.length : Int) - 1) = (t : Int) + (ps.length : Int) - 1 := i64_of _ (by omega) (by omega)
        rw [hz] at hst
        rw [hst] at HD2
        clear hA0 hz hst
        go_wp2_with (at_builtin; refine wpList_append_own_at _ rfl _ _ 32 rfl w.heap.size 3 i0 (.int .i64 0) 1 8 Try.underlying32 hi hz0 hz1 hz2 rfl (by decide) _ _ _ rfl (HO4.out.alloc _) _ 1 1 [encI (z : Int)] rfl rfl (cell_one_at _ _ _ _ (by simp)) (by simp [Value.oneCell', encI]) (by unfold maxLen; omega) (by omega) (Nat.le_trans HB4.out.size (by simp)) ?_; intro v' w5 hown' hgrow hnil hat; have HO5 := Lib.hid hown'; have HG5 := Lib.hid hgrow; clear hown' hgrow hnil hat)
        have HB5 := Lib.hid (own_below HO4.out HB4.out HG5.out)
        have hne : Value.ownBlock u5 ≠ some w1.heap.size := fun e => by
          obtain ⟨c', fz, hk2⟩ := ownsRow_kind HO4.out _ e
          have h1 : w4.heap[w1.heap.size]? = _ := HRW4.out
          rw [h1] at hk2; cases hk2
        have HRW5 := grow_row HG5.out (HRW4.out.below ((Below.refl _ _).alloc (Nat.le_refl _) _) HRW4.out.lt) hne
        have l1 := own_len HO4.out
        have l2 := own_len HO5.out
        refine ⟨⟨z, dn ++ [t], R', rfl, HD2, Lib.hid (by rw [HTT.out, HRR.out, List.append_assoc]; rfl), Lib.hid ?_, Lib.hid ⟨HRW5, HB5.out.size⟩, Lib.hid (HPW.out.grow HB5.out), HB5⟩, by rw [l1, l2]; omega⟩
        rw [List.length_append, List.map_append]
        have h := HO5.out
        simpa using h
      · have d1 : decide (A < 0) = false := decide_eq_false hA0
        rw [if_neg hA0] at hst
        obtain ⟨z, hz⟩ : ∃ z, (t + 1) % ps.length = z := ⟨_, rfl⟩
        have ez2 : ((t : Int) + 1) % (ps.length : Int) = (z : Int) := by
          rw [← hz, Int.natCast_emod]; rfl
        have ez1 : ((t : Int) + 1).tmod (ps.length : Int) = (z : Int) := by
          rw [Int.tmod_eq_emod_of_nonneg (by omega)]; exact ez2
        have w2' : IntKind.i64.wrap ((t : Int) + 1) = (t : Int) + 1 := i64_of _ (by omega) (by omega)
        rw [hz] at hst
        rw [hst] at HD2
        clear hA0 hz hst
        go_wp2_with (at_builtin; refine wpList_append_own_at _ rfl _ _ 32 rfl w.heap.size 3 i0 (.int .i64 0) 1 8 Try.underlying32 hi hz0 hz1 hz2 rfl (by decide) _ _ _ rfl (HO4.out.alloc _) _ 1 1 [encI (z : Int)] rfl rfl (cell_one_at _ _ _ _ (by simp)) (by simp [Value.oneCell', encI]) (by unfold maxLen; omega) (by omega) (Nat.le_trans HB4.out.size (by simp)) ?_; intro v' w5 hown' hgrow hnil hat; have HO5 := Lib.hid hown'; have HG5 := Lib.hid hgrow; clear hown' hgrow hnil hat)
        have HB5 := Lib.hid (own_below HO4.out HB4.out HG5.out)
        have hne : Value.ownBlock u5 ≠ some w1.heap.size := fun e => by
          obtain ⟨c', fz, hk2⟩ := ownsRow_kind HO4.out _ e
          have h1 : w4.heap[w1.heap.size]? = _ := HRW4.out
          rw [h1] at hk2; cases hk2
        have HRW5 := grow_row HG5.out (HRW4.out.below ((Below.refl _ _).alloc (Nat.le_refl _) _) HRW4.out.lt) hne
        have l1 := own_len HO4.out
        have l2 := own_len HO5.out
        refine ⟨⟨z, dn ++ [t], R', rfl, HD2, Lib.hid (by rw [HTT.out, HRR.out, List.append_assoc]; rfl), Lib.hid ?_, Lib.hid ⟨HRW5, HB5.out.size⟩, Lib.hid (HPW.out.grow HB5.out), HB5⟩, by rw [l1, l2]; omega⟩
        rw [List.length_append, List.map_append]
        have h := HO5.out
        simpa using h
end Go.Proofs.Ytlehddifcjklgaa
