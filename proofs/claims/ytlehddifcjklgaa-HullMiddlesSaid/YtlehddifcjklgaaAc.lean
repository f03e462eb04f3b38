import Derived.Test.YtlehddifcjklgaaAb
import Derived.Maps.OwnIn
import Derived.Maps.OwnSet
import Derived.Maps.AppendAt
import Derived.RangeFuncNested
import Derived.RangeFuncBound
import Derived.RangeFuncCalls
import Derived.RangeFuncLeaves
import Derived.Shelf.Abstract
import Derived.Shelf.RegionOpen
import Derived.WalkKit
import Derived.OwnWalkIn
import Derived.TacticsInMore
import Derived.LoopNIn
import Derived.LoopIn
import Derived.WalkMore
import Derived.Sort.QuietThIn
import Derived.Sort.QuietTacIn
import Derived.Sort.BigQuietIn
import Derived.WalkSpells
import Derived.WalkLawsBesides
import Derived.BigQuiet
import Derived.Deep.QuietTactic
import Derived.Lib.Hide
import Derived.Deep.RegionHeld3
import Derived.StillTailTactics
import Derived.Deep.LoopGhost
import Derived.Lib.IndexAny
namespace Go.Proofs.Ytlehddifcjklgaa
open Go.RowKit Go.Shelf
attribute [local go_sem] Oper.semAt_some
theorem PtsAt.drop {W : World} {b : Nat} {ps : List Pt} (h : PtsAt W b 0 ps) (k : Nat) : PtsAt W b (k * 2) (ps.drop k) :=
  ⟨h.lt, fun i hi => by
    have hi' : k + i < ps.length := by rw [List.length_drop] at hi; omega
    have := h.x (k + i) hi'
    rw [List.getElem_drop, show k * 2 + i * 2 = 0 + (k + i) * 2 by omega]; exact this, fun i hi => by
    have hi' : k + i < ps.length := by rw [List.length_drop] at hi; omega
    have := h.y (k + i) hi'
    rw [List.getElem_drop, show k * 2 + i * 2 + 1 = 0 + (k + i) * 2 + 1 by omega]; exact this⟩
theorem balF_bd {ps : List Pt} (h12 : ps.length ≤ 12) (hbd : ∀ i (h : i < ps.length), Bd 1000 ps[i].1 ∧ 1 ≤ ps[i].2 ∧ ps[i].2 ≤ 100) : Bd 1000000000 (balF ps).1 ∧ Bd 1000000000 (balF ps).2 := by
  have b3 : ∀ z ∈ ps.map Prod.snd, Bd 100 z := fun z hz => by
    obtain ⟨p, hp, rfl⟩ := List.mem_map.1 hz
    obtain ⟨i, hi, rfl⟩ := List.getElem_of_mem hp
    have := hbd i hi; unfold Bd; omega
  have b4 : ∀ z ∈ ps.map momP, Bd 300000 z := fun z hz => by
    obtain ⟨p, hp, rfl⟩ := List.mem_map.1 hz
    obtain ⟨i, hi, rfl⟩ := List.getElem_of_mem hp
    have h := hbd i hi
    have h2 : Bd 100 ps[i].2 := by unfold Bd; omega
    exact (h2.mul (h.1.add (h.1.add h2))).mono (by omega)
  have q3 := bd_len (by omega) (sum_bd (by omega) _ b3) (n := 12) (by simp; omega)
  have q4 := bd_len (by omega) (sum_bd (by omega) _ b4) (n := 12) (by simp; omega)
  exact frac_bd (q4.mono (by simp)) (by unfold Bd at *; simp at q3; omega)
/-- is the balance at plank k over what is below it? -/
def heldB (ps : List Pt) (k : Nat) : Bool :=
  if k = 0 then !lessF (0, 1) (balF (ps.drop k)) else withinF (balF (ps.drop k)) ((ptAt ps (k - 1)).1, 1) ((ptAt ps (k - 1)).1 + (ptAt ps (k - 1)).2, 1)
theorem find_first {p : Nat → Bool} {n k : Nat} (h : ∀ j, j < k → p j = false) (hk : p k = true) (hn : k < n) : (List.range n).find? p = some k := by
  rw [List.find?_range_eq_some]
  exact ⟨hk, by simpa using hn, fun j hj => by simp [h j hj]⟩
theorem size58 (w : World) : (Go.sizeOf 58).run Try.prog w = .ok 2 w := by kernel_rfl
theorem slice_from2 (b n c k : Nat) (hk : k < n) (hn : n ≤ c) (w : World) :
    (Instr.slice 22 (.slice (some ⟨b, 0, none⟩) n c) (some (.int .i64 (k : Int))) none none).run Try.prog w = .ok (.slice (some ⟨b, k * 2, none⟩) (n - k) (c - k)) w := by
  have ht : Try.prog.underlying 22 = some (.slice (Try.prog.elem 22)) := by simp [Program.elem, Try.underlying22]
  have he : Try.prog.elem 22 = 58 := by simp [Program.elem, Try.underlying22]
  rw [run_slice_l w 22 _ _ _ ht .i64 _ (by omega) (by omega), he, size58]
  have hne : ¬ c = k := by omega
  by_cases h0 : k = 0
  · subst h0; simp [Result.andThen, sliced, Addr.add]
  · have h2 : ¬ k * 2 = 0 := by omega
    simp [Result.andThen, sliced, Addr.add, h0, h2, hne]
set_option maxRecDepth 100000 in
set_option maxHeartbeats 1000000 in
theorem isHeld_any (ps : List Pt) (b c k : Nat) (w : World) (hp : PtsAt w b 0 ps) (hk : k < ps.length) (hc : ps.length ≤ c) (h12 : ps.length ≤ 12) (hbd : ∀ i (h : i < ps.length), Bd 1000 ps[i].1 ∧ 1 ≤ ps[i].2 ∧ ps[i].2 ≤ 100) :
    Calls Try.prog 92 #[.slice (some ⟨b, 0, none⟩) ps.length c, .int .i64 (k : Int)] w fun e w' => e = .returned (.bool (heldB ps k)) ∧ Below w.heap.size w w' := by
  have hbd' : ∀ i (h : i < (ps.drop k).length), Bd 1000 (ps.drop k)[i].1 ∧ 1 ≤ (ps.drop k)[i].2 ∧ (ps.drop k)[i].2 ≤ 100 := fun i h => by
    rw [List.getElem_drop]; exact hbd _ _
  have hl' : (ps.drop k).length = ps.length - k := List.length_drop ..
  have HBAL := Lib.hid (fun W (h : PtsAt W b 0 ps) => balance_any (ps.drop k) b (k * 2) (c - k) W (h.drop k) (by omega) (by omega) hbd')
  obtain ⟨n1, n2⟩ := balF_bd (ps := ps.drop k) (by omega) hbd'
  rw [hl'] at HBAL
  have s1 : ∀ w, (Instr.slice 22 (.slice (some ⟨b, 0, none⟩) ps.length c) (some (.int .i64 (k : Int))) none none).run Try.prog w = .ok (.slice (some ⟨b, k * 2, none⟩) (ps.length - k) (c - k)) w := fun w => slice_from2 b _ c k hk hc w
  have hfin : heldB ps k = if k = 0 then !lessF (0, 1) (balF (ps.drop k)) else withinF (balF (ps.drop k)) ((ptAt ps (k - 1)).1, 1) ((ptAt ps (k - 1)).1 + (ptAt ps (k - 1)).2, 1) := rfl
  obtain ⟨an, ad, ha⟩ : ∃ an ad, balF (ps.drop k) = (an, ad) := ⟨_, _, rfl⟩
  rw [ha] at HBAL hfin n1 n2
  dsimp only at HBAL n1 n2
  have HP := Lib.hid hp
  have FIN := Lib.hid hfin
  have HPB := Lib.hid hbd
  clear hbd' hl' ha hp hbd hfin
  go_enter Try.func92, Try.ntmps92
  go_wp2_with fail
  refine (HBAL.out w HP.out).mono ?_
  rintro e w1 ⟨rfl, hb1⟩
  obtain ⟨V, hV⟩ : ∃ V, V = w1.alloc (.cells #[.int .i64 an, .int .i64 ad] 88) := ⟨_, rfl⟩
  have BV := Lib.hid (show Below w.heap.size w V by rw [hV]; exact Below.al hb1 (Nat.le_refl _) _)
  have r88 := Lib.hid (show Row V w1.heap.size 88 [.int .i64 an, .int .i64 ad] by rw [hV]; exact Row.new _ _ _)
  clear hb1
  by_cases hk0 : k = 0
  · have d0 : ((k : Int) == 0) = true := by simp [hk0]
    have k1 := Lib.hid (show Bd 4000000000000000000 (0 * ad) by rw [Int.zero_mul]; unfold Bd; omega)
    have k2 := Lib.hid (show Bd 4000000000000000000 (an * 1) by rw [Int.mul_one]; exact n1.mono (by omega))
    have F2 := Lib.hid (show heldB ps k = !lessF (0, 1) (an, ad) by rw [FIN.out, if_pos hk0])
    clear hk0 s1
    obtain ⟨z0, z1, _, _⟩ := two_cells r88.out
    have x0 := Kl.cell r88.out.lt z0
    have x1 := Kl.cell r88.out.lt z1
    go_wp2_with fail
    rw [← hV]
    clear hV
    refine wp_region_below (by kernel_rfl) (by kernel_rfl) ?_
    repeat (go_big_quiet_step (first | (go_at_call 78; exact Kl.call (whole_any _ _)) | (go_at_call 75; exact Kl.call (less_any 0 1 an ad _ k1.out k2.out))))
    refine wpQuiet_nil ?_
    rintro _ ⟨wq, rfl⟩
    go_wp2_with fail
    go_ret
    exact ⟨ret_bool F2.out.symm, Below.andThen BV.out wq.h (Nat.le_refl _)⟩
  · have d0 : ((k : Int) == 0) = false := beq_eq_false_iff_ne.2 (by omega)
    have hk1 : k - 1 < ps.length := by omega
    have F2 := Lib.hid (show heldB ps k = withinF (an, ad) ((ptAt ps (k - 1)).1, 1) ((ptAt ps (k - 1)).1 + (ptAt ps (k - 1)).2, 1) by rw [FIN.out, if_neg hk0])
    have hpt : ptAt ps (k - 1) = ps[k - 1] := ptAt_lt hk1
    rw [hpt] at F2
    have hb := HPB.out (k - 1) hk1
    have hPV := HP.out.grow BV.out
    have hx := hPV.x _ hk1
    have hy := hPV.y _ hk1
    rw [Nat.zero_add] at hx hy
    have e1 : IntKind.i64.wrap ((k : Int) - 1) = ((k - 1 : Nat) : Int) := by rw [i64_of _ (by omega) (by omega)]; omega
    have e2 : (k : Int) - 1 = ((k - 1 : Nat) : Int) := by omega
    generalize ps[k - 1] = p at *
    obtain ⟨p1, p2⟩ := p
    dsimp only at hx hy hb F2
    have hp2 : Bd 100 p2 := by unfold Bd; omega
    have k1 := Lib.hid (hb.1.mono (C := 100000000) (by omega))
    have k2 := Lib.hid (hp2.mono (C := 100000000) (by omega))
    have k3 := Lib.hid (hb.1.mono (C := 1000000000) (by omega))
    have k4 := Lib.hid ((hb.1.add hp2).mono (C := 1000000000) (by omega))
    have k5 := Lib.hid (n1.mono (C := 1000000000000000000) (by omega))
    have k6 := Lib.hid n2
    obtain ⟨Z, hZ⟩ : ∃ Z, Z = V.alloc (.cells #[.int .i64 p1, .int .i64 p2] 58) := ⟨_, rfl⟩
    have BZ : Below V.heap.size V Z := by rw [hZ]; exact (Below.refl _ _).alloc (Nat.le_refl _) _
    have rz := Lib.hid (r88.out.below BZ r88.out.lt)
    have r58 := Lib.hid (show Row Z (w1.heap.size + 1) 58 [.int .i64 p1, .int .i64 p2] by
      have h0 : Row Z V.heap.size 58 [.int .i64 p1, .int .i64 p2] := by rw [hZ]; exact Row.new _ _ _
      have hs : V.heap.size = w1.heap.size + 1 := by rw [hV, size_al]
      rw [hs] at h0; exact h0)
    have BZw := Lib.hid (Below.andThen BV.out BZ (Nat.le_refl _))
    rw [hV] at hx hy
    clear hb hp2 hPV hpt hk0 s1 BZ
    generalize hkk : k - 1 = kk at *
    clear hkk
    go_wp2_with fail
    rw [← hV, ← hZ]
    clear hV hZ
    obtain ⟨z0, z1, _, _⟩ := two_cells rz.out
    obtain ⟨z2, z3, _, _⟩ := two_cells r58.out
    have x0 := Kl.cell rz.out.lt z0
    have x1 := Kl.cell rz.out.lt z1
    have x2 := Kl.cell r58.out.lt z2
    have x3 := Kl.cell r58.out.lt z3
    refine wp_region_below (by kernel_rfl) (by kernel_rfl) ?_
    repeat (go_big_quiet_step (first | (go_at_call 78; exact Kl.call (whole_any _ _)) | (go_at_call 93; exact Kl.call (right_any p1 p2 _ k1.out k2.out)) | (go_at_call 100; exact Kl.call (within_any an ad p1 (p1 + p2) _ k5.out k6.out k3.out k4.out))))
    refine wpQuiet_nil ?_
    rintro _ ⟨wq, rfl⟩
    go_wp2_with fail
    go_ret
    exact ⟨ret_bool F2.out.symm, Below.andThen BZw.out wq.h (Nat.le_refl _)⟩
/-- the first plank that is not held -/
def standF (ps : List Pt) : Int × Bool :=
  match (List.range ps.length).find? (fun k => !heldB ps k) with
  | some k => ((k : Int), false)
  | none => (0, true)
set_option maxRecDepth 100000 in
set_option maxHeartbeats 1000000 in
theorem Stands_any (ps : List Pt) (b c : Nat) (w : World) (hp : PtsAt w b 0 ps) (hc : ps.length ≤ c) (ht : twrB ps = true) :
    Calls Try.prog 48 #[.slice (some ⟨b, 0, none⟩) ps.length c] w fun e w' => e = .returned (.tuple #[.int .i64 (standF ps).1, .bool (standF ps).2, .int .i64 0]) ∧ Below w.heap.size w w' := by
  obtain ⟨h1, h12⟩ := twr_len ht
  have HCT := CheckTower_any ps b 0 c w hp (by omega)
  rw [ht] at HCT
  have HH := Lib.hid (fun W k (h : PtsAt W b 0 ps) (hk : k < ps.length) => isHeld_any ps b c k W h hk hc h12 (fun i hi => twr_bd ht hi))
  have HP := Lib.hid hp
  obtain ⟨E1, E2, hE⟩ : ∃ E1 E2, standF ps = (E1, E2) := ⟨_, _, rfl⟩
  rw [hE]
  have HE := Lib.hid hE
  have HCT' := Lib.hid HCT
  dsimp only
  clear hp ht HCT hE
  go_enter Try.func48, Try.ntmps48
  go_wp2_with fail
  refine HCT'.out.mono ?_
  rintro e w1 ⟨rfl, hb1⟩
  have T1 := Lib.hid hb1
  clear hb1 HCT'
  go_wp2_with fail
  go_loopw [14] (fun i wr => ∃ k : Nat, k ≤ ps.length ∧ i = .int .i64 (k : Int) ∧ Hid (Below w.heap.size w wr) ∧ Hid (∀ j, j < k → heldB ps j = true)) (fun i _ => ps.length - (intOf i).toNat)
  case atStart => exact ⟨0, by omega, rfl, T1, Lib.hid (fun j h => by omega)⟩
  case round =>
    obtain ⟨k, hk, rfl, HB, HK⟩ := hrel
    by_cases hlt : k < ps.length
    · have hd : decide ((k : Int) < (ps.length : Int)) = true := decide_eq_true (by omega)
      go_wp2_with fail
      refine (HH.out wr k (HP.out.grow HB.out) hlt).mono ?_
      rintro e w3 ⟨rfl, hb3⟩
      have HB3 := Lib.hid (Below.andThen HB.out hb3 (Nat.le_refl _))
      clear hb3
      cases hh : heldB ps k
      · have hfin : E1 = (k : Int) ∧ E2 = false := by
          have h := HE.out
          unfold standF at h
          rw [find_first (fun j hj => by simp [HK.out j hj]) (by simp [hh]) hlt] at h
          simp at h; exact ⟨h.1.symm, h.2⟩
        have HF := Lib.hid hfin
        clear hfin hh
        go_wp2_with fail
        rw [HF.out.1, HF.out.2]
        exact bodyPost_ret (v := .tuple #[.int .i64 (k : Int), .bool false, .int .i64 0]) (by simp [results, Try.results48, go_sem]) rfl ⟨rfl, HB3.out⟩
      · have HKK := Lib.hid (show ∀ j, j < k + 1 → heldB ps j = true from fun j hj => by
          by_cases h : j = k
          · subst h; exact hh
          · exact HK.out j (by omega))
        clear hh
        go_wp2_with fail
        go_roundw
        case rel => exact ⟨k + 1, by omega, rfl, HB3, HKK⟩
        case measure => simp [intOf]; omega
    · have hd : decide ((k : Int) < (ps.length : Int)) = false := decide_eq_false (by omega)
      obtain rfl : k = ps.length := by omega
      have hfin : E1 = 0 ∧ E2 = true := by
        have h := HE.out
        unfold standF at h
        rw [List.find?_eq_none.2 (fun j hj => by simp [HK.out j (List.mem_range.1 hj)])] at h
        simp at h; exact ⟨h.1.symm, by simpa using h.2.symm⟩
      have HF := Lib.hid hfin
      clear hfin
      go_wp2_with fail
      rw [HF.out.1, HF.out.2]
      exact bodyPost_ret (v := .tuple #[.int .i64 0, .bool true, .int .i64 0]) (by simp [results, Try.results48, go_sem]) rfl ⟨rfl, HB.out⟩
end Go.Proofs.Ytlehddifcjklgaa
