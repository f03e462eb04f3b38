import Derived.Test.YtlehddifcjklgaaR
import Derived.Maps.OwnIn
import Derived.Maps.OwnSet
import Derived.Maps.AppendAt
import Derived.RangeFuncNested
import Derived.RangeFuncBound
import Derived.RangeFuncCalls
import Derived.RangeFuncLeaves
import Derived.Shelf.Abstract
import Derived.Shelf.RegionOpen
import Derived.WalkKit
import Derived.OwnWalkIn
import Derived.TacticsInMore
import Derived.LoopNIn
import Derived.LoopIn
import Derived.WalkMore
import Derived.Sort.QuietThIn
import Derived.Sort.QuietTacIn
import Derived.Sort.BigQuietIn
import Derived.WalkSpells
import Derived.WalkLawsBesides
import Derived.BigQuiet
import Derived.Deep.QuietTactic
import Derived.Lib.Hide
import Derived.Deep.RegionHeld3
import Derived.StillTailTactics
import Derived.Deep.LoopGhost
import Derived.Lib.IndexAny
namespace Go.Proofs.Ytlehddifcjklgaa
open Go.RowKit Go.Shelf
attribute [local go_sem] Oper.semAt_some
theorem body_cells {W : World} {B : Nat} {v0 v1 v2 v3 : Value} (h : Row W B 81 [v0, v1, v2, v3]) :
    W.cell? ⟨B, 0, none⟩ = some v0 ∧ W.cell? ⟨B, 1, none⟩ = some v1 ∧ W.cell? ⟨B, 2, none⟩ = some v2 ∧ W.cell? ⟨B, 3, none⟩ = some v3 := ⟨h.cell 0, h.cell 1, h.cell 2, h.cell 3⟩
/-- the sides over which a hull rolls, if that ends within so many -/
def rollF (ps : List Pt) (m : Int × Int × Int) : Nat → Nat → Option (List Int)
  | 0, _ => none
  | f + 1, s =>
    if lessF (foot ps m s) (0, 1) then (rollF ps m f ((s + ps.length - 1) % ps.length)).map ((s : Int) :: ·)
    else if lessF (1, 1) (foot ps m s) then (rollF ps m f ((s + 1) % ps.length)).map ((s : Int) :: ·)
    else some [(s : Int)]
def lenOfV : Value → Nat
  | .slice _ l _ => l
  | _ => 0
theorem own_len {W : World} {n₀ e k s : Nat} {u : Value} {xs : List Value} (h : W.ownsRow n₀ e s u k xs) : lenOfV u = k := by
  rcases h.2 with ⟨rfl, h0⟩ | ⟨g, cap, cur, rfl, _⟩
  · exact h0.symm
  · rfl
set_option maxRecDepth 100000 in
set_option maxHeartbeats 2000000 in
theorem Roll_any (ps : List Pt) (b c s f : Nat) (T : List Int) (w : World) (hp : PtsAt w b 0 ps) (hck : chk ps = true) (hD0 : 0 < area ps) (hs : s < ps.length) (hT : rollF ps (mid ps) f s = some T) (hTl : T.length ≤ 1000) :
    Calls Try.prog 29 #[.slice (some ⟨b, 0, none⟩) ps.length c, .int .i64 (s : Int)] w fun e w' => ∃ v, e = .returned (.tuple #[v, .int .i64 0]) ∧ w'.ownsRow w.heap.size 3 1 v T.length (T.map encI) ∧ Below w.heap.size w w' := by
  have ha : areP ps = true := by unfold chk at hck; exact (Bool.and_eq_true _ _ ▸ hck : _ ∧ _).1
  obtain ⟨h3, h12⟩ := areP_len ha
  obtain ⟨i0, hi, hz0, hz1, hz2⟩ := info_parts info3
  have HM := Lib.hid (fun W g s (hg : g < W.heap.size) hgc hs (h : PtsAt W b 0 ps) => bodyOf_one ps b c W g s hg hgc hs h hck hD0)
  obtain ⟨m1, m2, m3, m4⟩ := mid_facts ha hD0
  have HF := Lib.hid (fun W s (hs : s < ps.length) (h : PtsAt W b 0 ps) => foot_any ps b c (mid ps).1 (mid ps).2.1 (mid ps).2.2 s W h ha hs m1 m2 m3 m4 (along_pos hck hs))
  have HFB := Lib.hid (fun s (hs : s < ps.length) => foot_bd (s := s) ha hs m1 m2 m3)
  have HT := Lib.hid hT
  have em : ((mid ps).1, (mid ps).2.1, (mid ps).2.2) = mid ps := rfl
  rw [em] at HF HFB
  obtain ⟨X, hX⟩ : ∃ X, (mid ps).1 = X := ⟨_, rfl⟩
  obtain ⟨Y, hY⟩ : ∃ Y, (mid ps).2.1 = Y := ⟨_, rfl⟩
  obtain ⟨D, hD⟩ : ∃ D, (mid ps).2.2 = D := ⟨_, rfl⟩
  rw [hX, hY, hD] at HM HF
  generalize mid ps = mm at *
  have HP := Lib.hid hp
  have hbl := hp.lt
  clear hp hck hD0 m1 m2 m3 m4 hX hY hD em hT
  go_enter Try.func29, Try.ntmps29
  go_wp2_with fail
  go_step3
  go_wp2_with fail
  have B0 := Lib.hid (show Below w.heap.size w (w.alloc (.cells #[.int .i64 (s : Int)] 3)) from (Below.refl _ _).alloc (Nat.le_refl _) _)
  refine (HM.out _ w.heap.size s (by simp) (by simp [cell_al]) hs (HP.out.grow B0.out)).mono ?_
  rintro e w1 ⟨rfl, hb1⟩
  obtain ⟨V, hV⟩ : ∃ V, V = w1.alloc (.cells #[.slice (some ⟨b, 0, none⟩) ps.length c, .int .i64 X, .int .i64 Y, .int .i64 D] 81) := ⟨_, rfl⟩
  have BV := Lib.hid (show Below w.heap.size w V by rw [hV]; exact Below.al (Below.andThen B0.out hb1 (Nat.le_refl _)) (Nat.le_refl _) _)
  have rb := Lib.hid (show Row V w1.heap.size 81 [.slice (some ⟨b, 0, none⟩) ps.length c, .int .i64 X, .int .i64 Y, .int .i64 D] by rw [hV]; exact Row.new _ _ _)
  have l1 : w1.heap.size < V.heap.size := by rw [hV]; simp
  clear hb1
  go_wp2_with fail
  rw [← hV]
  clear hV
  have HPV := Lib.hid (HP.out.grow BV.out)
  go_step3
  go_wp2_with fail
  go_loopw [9, 1] (fun v sd wr => ∃ (L R : List Int) (t g : Nat), sd = .int .i64 (t : Int) ∧ t < ps.length ∧ Hid (wr.ownsRow V.heap.size 3 1 v L.length (L.map encI)) ∧ Hid (Below V.heap.size V wr) ∧ Hid (rollF ps mm g t = some R) ∧ Hid (T = L ++ R)) (fun v _ _ => T.length + 1 - lenOfV v)
  case atStart => exact ⟨[], T, s, f, rfl, hs, Lib.hid (World.ownsRow_nil _ _ _ _), Lib.hid (Below.refl _ _), HT, Lib.hid rfl⟩
  case round =>
    obtain ⟨L, R, t, g, rfl, ht, HR, HB, HG, HL⟩ := hrel
    have hg0 : ∃ g', g = g' + 1 := by
      cases g with
      | zero => have := HG.out; simp [rollF] at this
      | succ g' => exact ⟨g', rfl⟩
    obtain ⟨g', rfl⟩ := hg0
    have hR1 : 1 ≤ R.length := by
      have h := HG.out
      unfold rollF at h
      split at h
      · cases h2 : rollF ps mm g' ((t + ps.length - 1) % ps.length) with
        | none => rw [h2] at h; cases h
        | some r => rw [h2] at h; cases h; simp
      · split at h
        · cases h2 : rollF ps mm g' ((t + 1) % ps.length) with
          | none => rw [h2] at h; cases h
          | some r => rw [h2] at h; cases h; simp
        · cases h; simp
    have hTL : T.length = L.length + R.length := by rw [HL.out, List.length_append]
    have hLl : L.length ≤ 999 := by omega
    have HTL := Lib.hid hTL
    have HLEN := Lib.hid (own_len HR.out)
    clear hTL
    go_wp2_with (at_builtin; refine wpList_append_own_at _ rfl _ _ 32 rfl V.heap.size 3 i0 (.int .i64 0) 1 8 Try.underlying32 hi hz0 hz1 hz2 rfl (by decide) _ _ _ rfl (HR.out.alloc _) _ 1 1 [encI (t : Int)] rfl rfl (cell_one_at _ _ _ _ (by simp)) (by simp [Value.oneCell', encI]) (by unfold maxLen; omega) (by omega) (Nat.le_trans HB.out.size (by simp)) ?_; intro v' w2 hown' hgrow hnil hat; have HR2 := Lib.hid hown'; have HB2 := Lib.hid (own_below HR.out HB.out hgrow); have HLEN2 := Lib.hid (own_len hown'); obtain ⟨c0, c1, c2, c3⟩ := body_cells (rb.out.below HB2.out l1); clear hown' hgrow hnil hat)
    obtain ⟨fn, fd, hfo⟩ : ∃ fn fd, foot ps mm t = (fn, fd) := ⟨_, _, rfl⟩
    have hF := HF.out w2 t ht (HPV.out.grow HB2.out)
    have hfb := HFB.out t ht
    have hG := HG.out
    unfold rollF at hG
    rw [hfo] at hF hfb hG
    dsimp only at hF hfb
    have k1 := Lib.hid (show Bd 4000000000000000000 (fn * 1) by rw [Int.mul_one]; exact hfb.1.mono (by omega))
    have k2 := Lib.hid (show Bd 4000000000000000000 (0 * fd) by rw [Int.zero_mul]; unfold Bd; omega)
    have k3 := Lib.hid (show Bd 4000000000000000000 (1 * fd) by rw [Int.one_mul]; exact hfb.2.mono (by omega))
    refine hF.mono ?_
    rintro e w3 ⟨rfl, hb3⟩
    obtain ⟨Z, hZ⟩ : ∃ Z, Z = w3.alloc (.cells #[.int .i64 fn, .int .i64 fd] 88) := ⟨_, rfl⟩
    have BZ : Below w2.heap.size w2 Z := by rw [hZ]; exact Below.al hb3 (Nat.le_refl _) _
    have HB4 := Lib.hid (Below.andThen HB2.out BZ (Nat.le_refl _))
    have HR4 := Lib.hid (own_grow HR2.out BZ)
    have z0 : Z.cell? ⟨w3.heap.size, 0, none⟩ = some (.int .i64 fn) := by rw [hZ]; simp [cell_al]
    have z1 : Z.cell? ⟨w3.heap.size, 1, none⟩ = some (.int .i64 fd) := by rw [hZ]; simp [cell_al]
    have lz : w3.heap.size < Z.heap.size := by rw [hZ]; simp
    have HGG := Lib.hid hG
    clear hb3 BZ hF hfb hG hfo c0 c1 c2 c3 HG HR2 HB2 HR HB
    go_wp2_with fail
    rw [← hZ]
    clear hZ
    have x0 := Kl.cell lz z0
    have x1 := Kl.cell lz z1
    refine wp_region_below (by kernel_rfl) (by kernel_rfl) ?_
    repeat (go_big_quiet_step (first | (go_at_call 78; exact Kl.call (whole_any _ _)) | (go_at_call 75; exact Kl.call (less_any fn fd 0 1 _ k1.out k2.out))))
    refine wpQuiet_nil ?_
    rintro _ ⟨wq, rfl⟩
    have y0 := below_at wq.h lz z0
    have y1 := below_at wq.h lz z1
    have lq : w3.heap.size < wq.W.heap.size := Nat.lt_of_lt_of_le lz wq.h.size
    have HB5 := Lib.hid (Below.andThen HB4.out wq.h (Nat.le_refl _))
    have HR5 := Lib.hid (own_grow HR4.out wq.h)
    clear z0 z1 x0 x1
    generalize wq.W = w5 at *
    cases h1 : lessF (fn, fd) (0, 1)
    · have H1 := Lib.hid h1
      clear h1
      go_wp2_with fail
      have x0 := Kl.cell lq y0
      have x1 := Kl.cell lq y1
      refine wp_region_below (by kernel_rfl) (by kernel_rfl) ?_
      repeat (go_big_quiet_step (first | (go_at_call 78; exact Kl.call (whole_any _ _)) | (go_at_call 75; exact Kl.call (less_any 1 1 fn fd _ k3.out k1.out))))
      refine wpQuiet_nil ?_
      rintro _ ⟨wr, rfl⟩
      have HB6 := Lib.hid (Below.andThen HB5.out wr.h (Nat.le_refl _))
      have HR6 := Lib.hid (own_grow HR5.out wr.h)
      clear x0 x1 y0 y1
      generalize wr.W = w6 at *
      cases h2 : lessF (1, 1) (fn, fd)
      · have HRR : Hid (R = [(t : Int)]) := Lib.hid (by
          have := HGG.out; rw [H1.out, h2] at this; simpa using this.symm)
        clear h2
        go_wp2_with fail
        rw [Exit.noGoto_ret]
        refine bodyPost_ret (v := .tuple #[v', .int .i64 0]) (by simp [results, Try.results29, go_sem]) rfl ⟨v', rfl, ?_, Below.andThen BV.out HB6.out (Nat.le_refl _)⟩
        rw [HL.out, HRR.out]
        simpa using ownsRow_lower HR6.out BV.out.size
      · have hG2 := HGG.out
        rw [H1.out, h2] at hG2
        simp only [Bool.false_eq_true, if_false, if_true] at hG2
        obtain ⟨R', hR', hRR⟩ : ∃ R', rollF ps mm g' ((t + 1) % ps.length) = some R' ∧ R = (t : Int) :: R' := by
          cases h3 : rollF ps mm g' ((t + 1) % ps.length) with
          | none => rw [h3] at hG2; cases hG2
          | some r => rw [h3] at hG2; cases hG2; exact ⟨r, rfl, rfl⟩
        have HG' := Lib.hid hR'
        have HRR := Lib.hid hRR
        have e4 : IntKind.i64.wrap ((t : Int) + 1) = ((t + 1 : Nat) : Int) := by rw [i64_of _ (by omega) (by omega)]; omega
        have e5 : (((t + 1 : Nat) : Int)).tmod (ps.length : Int) = (((t + 1) % ps.length : Nat) : Int) := by rw [← Int.ofNat_tmod]
        have e7 : ((t : Int) + 1) % (ps.length : Int) = (((t + 1) % ps.length : Nat) : Int) := by rw [show (t : Int) + 1 = ((t + 1 : Nat) : Int) by omega]; rfl
        have e6 : ¬ ((ps.length : Int) = 0) := by omega
        have t2lt : (t + 1) % ps.length < ps.length := Nat.mod_lt _ (by omega)
        clear h2 hG2 hR' hRR
        generalize (t + 1) % ps.length = t2 at *
        go_wp2_with fail
        refine ⟨⟨L ++ [(t : Int)], R', t2, g', by rw [e7], t2lt, Lib.hid (by simpa using HR6.out), HB6, HG', Lib.hid (by rw [HL.out, HRR.out]; simp)⟩, ?_⟩
        rw [HLEN.out, HLEN2.out]; have := HTL.out; omega
    · have hG2 := HGG.out
      rw [h1] at hG2
      simp only [if_true] at hG2
      obtain ⟨R', hR', hRR⟩ : ∃ R', rollF ps mm g' ((t + ps.length - 1) % ps.length) = some R' ∧ R = (t : Int) :: R' := by
        cases h3 : rollF ps mm g' ((t + ps.length - 1) % ps.length) with
        | none => rw [h3] at hG2; cases hG2
        | some r => rw [h3] at hG2; cases hG2; exact ⟨r, rfl, rfl⟩
      have HG' := Lib.hid hR'
      have HRR := Lib.hid hRR
      have e1 : IntKind.i64.wrap ((t : Int) + (ps.length : Int)) = ((t + ps.length : Nat) : Int) := by rw [i64_of _ (by omega) (by omega)]; omega
      have e2 : IntKind.i64.wrap (((t + ps.length : Nat) : Int) - 1) = ((t + ps.length - 1 : Nat) : Int) := by rw [i64_of _ (by omega) (by omega)]; omega
      have e3 : (((t + ps.length - 1 : Nat) : Int)).tmod (ps.length : Int) = (((t + ps.length - 1) % ps.length : Nat) : Int) := by rw [← Int.ofNat_tmod]
      have e11 : IntKind.i64.wrap ((t : Int) + (ps.length : Int) - 1) = ((t + ps.length - 1 : Nat) : Int) := by rw [i64_of _ (by omega) (by omega)]; omega
      have e8 : ((t : Int) + (ps.length : Int) - 1) % (ps.length : Int) = (((t + ps.length - 1) % ps.length : Nat) : Int) := by
        rw [show (t : Int) + (ps.length : Int) - 1 = ((t + ps.length - 1 : Nat) : Int) by omega]; rfl
      have e9 : (((t + ps.length - 1 : Nat) : Int)) % (ps.length : Int) = (((t + ps.length - 1) % ps.length : Nat) : Int) := rfl
      have e6 : ¬ ((ps.length : Int) = 0) := by omega
      have t2lt : (t + ps.length - 1) % ps.length < ps.length := Nat.mod_lt _ (by omega)
      clear h1 hG2 hR' hRR y0 y1
      generalize (t + ps.length - 1) % ps.length = t2 at *
      go_wp2_with fail
      refine ⟨⟨L ++ [(t : Int)], R', t2, g', rfl, t2lt, Lib.hid (by simpa using HR5.out), HB5, HG', Lib.hid (by rw [HL.out, HRR.out]; simp)⟩, ?_⟩
      rw [HLEN.out, HLEN2.out]; have := HTL.out; omega
end Go.Proofs.Ytlehddifcjklgaa
