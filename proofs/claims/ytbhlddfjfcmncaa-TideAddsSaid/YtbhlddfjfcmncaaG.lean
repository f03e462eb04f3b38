import Derived.Test.YtbhlddfjfcmncaaF
import Derived.Test.YtbhlddfjfcmncaaShelf
import Derived.WalkKit
import Derived.WalkSpells
import Derived.WalkLawsBesides
import Derived.BigQuiet
import Derived.Deep.QuietTactic
import Derived.Lib.Hide
import Derived.StillTailTactics
import Derived.Lib.SlBytesRow
import Derived.Deep.RegionHeld3
import Derived.Deep.LoopGhost
namespace Go.Proofs.Ytbhlddfjfcmncaa
open Go.RowKit
set_option maxRecDepth 100000 in
set_option maxHeartbeats 1000000 in
theorem span_any (b n c : Nat) (ts : List (ByteArray × ByteArray)) (F R : Nat → Nat) (w : World) (hn : ts.length = n) (hl : n ≤ 1000) (hat : TidesAt w b ts) (hb : b < w.heap.size)
    (hF0 : F 0 = 0) (hR0 : R 0 = 1) (hF : ∀ k (h : k < ts.length), F (k + 1) = max (F k) ts[k].1.size) (hR : ∀ k (h : k < ts.length), R (k + 1) = R k / Nat.gcd (R k) ts[k].2.size * ts[k].2.size)
    (hB : ∀ k, k ≤ n → F k ≤ 1000000 ∧ 1 ≤ R k ∧ R k ≤ 1000000) (hS : ∀ t ∈ ts, t.1.size ≤ 60 ∧ 1 ≤ t.2.size ∧ t.2.size ≤ 60) :
    Calls Try.prog 60 #[.slice (some ⟨b, 0, none⟩) n c] w fun e w' => e = .returned (.tuple #[.int .i64 (F n), .int .i64 (R n)]) ∧ Below w.heap.size w w' := by
  have H1 := Lib.hid hat
  have N1 := Lib.hid hn
  have HF := Lib.hid hF
  have HR := Lib.hid hR
  have HB := Lib.hid hB
  have HS := Lib.hid hS
  have HF0 := Lib.hid hF0
  have HR0 := Lib.hid hR0
  clear hat hn hF hR hB hS hF0 hR0
  go_enter Try.func60, Try.ntmps60
  go_wp2_with fail
  go_loopw [2, 3, 5, 8] (fun x y _ i wr => ∃ k : Nat, k ≤ n ∧ i = .int .i64 k ∧ x = .int .i64 (F k) ∧ y = .int .i64 (R k) ∧ Hid (Below w.heap.size w wr)) (fun _ _ _ i _ => n - (intOf i).toNat)
  case atStart => exact ⟨0, Nat.zero_le _, rfl, by rw [HF0.out]; rfl, by rw [HR0.out]; rfl, Lib.hid (Below.refl _ _)⟩
  case round =>
    obtain ⟨k, hk, rfl, rfl, rfl, hbel⟩ := hrel
    by_cases hlt : k < n
    · have L1 : k < ts.length := by rw [N1.out]; exact hlt
      obtain ⟨a0, a1⟩ := (H1.out.below hbel.out hb) k L1
      have hS1 := HS.out ts[k] (List.getElem_mem L1)
      have F1 := Lib.hid (HF.out k L1)
      have R1 := Lib.hid (HR.out k L1)
      obtain ⟨fb, rb1, rb2⟩ := HB.out k hk
      generalize ts[k] = t at *
      obtain ⟨f, r⟩ := t
      simp only at a0 a1 hS1
      obtain ⟨z1, z2, z3⟩ := hS1
      generalize F k = fk at *
      generalize R k = rk at *
      have gp : 1 ≤ Nat.gcd rk r.size := Nat.gcd_pos_of_pos_right _ (by omega)
      have gd : ((rk : Int)).tdiv ((Nat.gcd rk r.size : Nat) : Int) = ((rk / Nat.gcd rk r.size : Nat) : Int) := by rw [← Int.ofNat_tdiv]
      have gm : IntKind.i64.wrap (((rk / Nat.gcd rk r.size : Nat) : Int) * (r.size : Int)) = ((rk / Nat.gcd rk r.size * r.size : Nat) : Int) := by
        have h1 : rk / Nat.gcd rk r.size ≤ rk := Nat.div_le_self _ _
        have h2 : rk / Nat.gcd rk r.size * r.size ≤ 1000000 * 60 := Nat.mul_le_mul (by omega) z3
        rw [← Int.natCast_mul, i64_of _ (by omega) (by omega)]
      have hq : rk / Nat.gcd rk r.size ≤ 1000000 := Nat.le_trans (Nat.div_le_self _ _) (by omega)
      have CD : Hid (∀ W, Calls Try.prog 88 #[.int .i64 rk, .int .i64 r.size] W fun e w' => e = .returned (.int .i64 (Nat.gcd rk r.size)) ∧ ∃ n, w' = W.drewN n) := Lib.hid (fun W => divisor_any rk r.size W (by omega) (by omega))
      generalize hgg : Nat.gcd rk r.size = gg at *
      have HGG := Lib.hid hgg
      clear hgg
      generalize hqq : rk / gg = qq at *
      have HQQ := Lib.hid hqq
      clear hqq
      have gz : ¬ ((gg : Int) = 0) := by omega
      go_wp2_with fail
      go_quiet ((go_at_call 88; exact Calls.quiet_of (CD.out _)))
      go_wp2_with fail
      go_roundw
      case rel => exact ⟨k + 1, by omega, rfl, by rw [F1.out]; go_num, by rw [R1.out, Int.natCast_mul], Lib.hid (below_drewN (hbel.out.alloc hbel.out.size _) _)⟩
      case measure => simp [intOf]; omega
    · obtain rfl : k = n := by omega
      go_wp2_with fail
      go_ret2
      exact ⟨rfl, hbel.out⟩
/-- a function value is one of the three that joins make, or that of Same -/
def JoinsU (fv : Value) (q : Bool → Bool → Bool) : Prop := ∃ fid, fv = .func (.func fid) #[] #[] ∧ ∀ (a b : Bool) (w : World), Calls Try.prog fid #[.bool a, .bool b] w fun e w' => e = .returned (.int .u8 (markU (q a b)).toNat) ∧ w = w'

set_option maxHeartbeats 400000 in
theorem both_cl (a b : Bool) (w : World) : Calls Try.prog 65 #[.bool a, .bool b] w fun e w' => e = .returned (.int .u8 (markU (a && b)).toNat) ∧ w = w' := by
  cases a <;> cases b
  all_goals
    go_enter Try.func65, Try.ntmps65
    go_wp2_with fail
    refine (mark_any _ _).mono ?_
    rintro e w1 ⟨rfl, rfl⟩
    go_wp2_with fail
    go_ret
    exact ⟨rfl, rfl⟩
set_option maxHeartbeats 400000 in
theorem either_cl (a b : Bool) (w : World) : Calls Try.prog 67 #[.bool a, .bool b] w fun e w' => e = .returned (.int .u8 (markU (a || b)).toNat) ∧ w = w' := by
  cases a <;> cases b
  all_goals
    go_enter Try.func67, Try.ntmps67
    go_wp2_with fail
    refine (mark_any _ _).mono ?_
    rintro e w1 ⟨rfl, rfl⟩
    go_wp2_with fail
    go_ret
    exact ⟨rfl, rfl⟩
set_option maxHeartbeats 400000 in
theorem not_cl (a b : Bool) (w : World) : Calls Try.prog 68 #[.bool a, .bool b] w fun e w' => e = .returned (.int .u8 (markU (!a)).toNat) ∧ w = w' := by
  cases a <;> cases b
  all_goals
    go_enter Try.func68, Try.ntmps68
    go_wp2_with fail
    refine (mark_any _ _).mono ?_
    rintro e w1 ⟨rfl, rfl⟩
    go_wp2_with fail
    go_ret
    exact ⟨rfl, rfl⟩

theorem cf65 (args : Array Value) (w : World) : (callFunc 65 args).run Try.prog w = .ok (.enter 65 args) w := by kernel_rfl
theorem cf67 (args : Array Value) (w : World) : (callFunc 67 args).run Try.prog w = .ok (.enter 67 args) w := by kernel_rfl
theorem cf68 (args : Array Value) (w : World) : (callFunc 68 args).run Try.prog w = .ok (.enter 68 args) w := by kernel_rfl
theorem Below.andThen {B : Nat} {w W W' : World} (h : Below B w W) (h' : Below W.heap.size W W') (hB : B ≤ w.heap.size) : Below B w W' :=
  h.trans (h'.mono (Nat.le_trans hB h.size))

def joinL (f r g s : ByteArray) (n : Nat) (q : Bool → Bool → Bool) : List UInt8 := (List.range n).map fun h => markU (q (hasB f r h) (hasB g s h))

set_option maxRecDepth 100000 in
set_option maxHeartbeats 1000000 in
theorem joined_any (f r g s : ByteArray) (n : Nat) (fid : FuncId) (q : Bool → Bool → Bool) (w : World) (hr1 : 1 ≤ r.size) (hs1 : 1 ≤ s.size) (hn : n ≤ 1000000)
    (hcf : ∀ args w, (callFunc fid args).run Try.prog w = .ok (.enter fid args) w)
    (hq : ∀ (a b : Bool) (w : World), Calls Try.prog fid #[.bool a, .bool b] w fun e w' => e = .returned (.int .u8 (markU (q a b)).toNat) ∧ w = w') :
    Calls Try.prog 89 #[.agg #[.string f, .string r], .agg #[.string g, .string s], .int .i64 n, .func (.func fid) #[] #[]] w fun e w' => ∃ b, e = .returned (.slice (some ⟨b, 0, none⟩) n n) ∧ w.heap.size ≤ b ∧ Row w' b 5 ((joinL f r g s n q).map encB) ∧ Below w.heap.size w w' := by
  have hmk := make_bytes n hn
  have HQ := Lib.hid hq
  clear hq
  go_enter Try.func89, Try.ntmps89
  go_wp2_with fail
  clear hmk
  obtain ⟨W0, hW0⟩ : ∃ W0, W0 = (w.alloc (.cells #[.string f, .string r] 23)).alloc (.cells #[.string g, .string s] 23) := ⟨_, rfl⟩
  have hsz : W0.heap.size = w.heap.size + 2 := by rw [hW0, size_al, size_al]
  have c0 : W0.cell? ⟨w.heap.size, 0, none⟩ = some (.string f) := by rw [hW0]; simp [cell_al]
  have c1 : W0.cell? ⟨w.heap.size, 1, none⟩ = some (.string r) := by rw [hW0]; simp [cell_al]
  have c2 : W0.cell? ⟨w.heap.size + 1, 0, none⟩ = some (.string g) := by rw [hW0]; simp [cell_al]
  have c3 : W0.cell? ⟨w.heap.size + 1, 1, none⟩ = some (.string s) := by rw [hW0]; simp [cell_al]
  have B0 : Hid (Below w.heap.size w W0) := Lib.hid (by rw [hW0]; exact ((Below.refl _ _).alloc (Nat.le_refl _) _).alloc (by rw [size_al]; omega) _)
  rw [← hW0]
  have C := Lib.hid (And.intro c0 (And.intro c1 (And.intro c2 c3)))
  have Hsz := Lib.hid hsz
  clear hW0 c0 c1 c2 c3 hsz
  go_loopw [10, 15] (fun _ i wr => ∃ k : Nat, k ≤ n ∧ i = .int .i64 k ∧ Hid (Row wr (w.heap.size + 1 + 1) 5 (fillTo n k (.int .u8 0) fun h => encB (markU (q (hasB f r h) (hasB g s h))))) ∧ Hid (Below (w.heap.size + 1 + 1) W0 wr)) (fun _ i _ => n - (intOf i).toNat)
  case atStart =>
    refine ⟨0, Nat.zero_le _, rfl, Lib.hid ?_, Lib.hid ?_⟩
    · rw [fillTo_zero]
      have := Row.new W0 5 (List.replicate n (.int .u8 0))
      rw [Hsz.out] at this; exact this
    · exact (Below.refl _ _).alloc (by rw [Hsz.out]; omega) _
  case round =>
    obtain ⟨k, hk, rfl, hrow, hbel⟩ := hrel
    by_cases hlt : k < n
    · have SS' : Hid (∀ W, Below (w.heap.size + 1 + 1) wr W → Below (w.heap.size + 1 + 1) wr W ∧ W.cell? ⟨w.heap.size, 0, none⟩ = some (.string f) ∧ W.cell? ⟨w.heap.size, 1, none⟩ = some (.string r) ∧ W.cell? ⟨w.heap.size + 1, 0, none⟩ = some (.string g) ∧ W.cell? ⟨w.heap.size + 1, 1, none⟩ = some (.string s)) := Lib.hid (fun W h => by
        have hh := hbel.out.trans h
        exact ⟨h, below_at hh (by omega) C.out.1, below_at hh (by omega) C.out.2.1, below_at hh (by omega) C.out.2.2.1, below_at hh (by omega) C.out.2.2.2⟩)
      have LT := Lib.hid hrow.out.lt
      obtain ⟨v0, hv0⟩ := fillTo_get n k k (.int .u8 0) (fun h => encB (markU (q (hasB f r h) (hasB g s h)))) hlt
      have CF : Hid (∀ W, Below wr.heap.size wr W → W.cell? ⟨w.heap.size + 1 + 1, k, none⟩ = some v0 ∧ W.frozen? ⟨w.heap.size + 1 + 1, k, none⟩ = false) := Lib.hid (fun W h => by
        have hr := hrow.out.below h LT.out
        exact ⟨by rw [hr.cell, hv0], hr.frozen k⟩)
      clear hv0
      have T0 : Below wr.heap.size wr wr.drew := (Below.refl _ _).drew
      go_wp2_with fail
      go_region_held3 (fun W => Below (w.heap.size + 1 + 1) wr W ∧ W.cell? ⟨w.heap.size, 0, none⟩ = some (.string f) ∧ W.cell? ⟨w.heap.size, 1, none⟩ = some (.string r) ∧ W.cell? ⟨w.heap.size + 1, 0, none⟩ = some (.string g) ∧ W.cell? ⟨w.heap.size + 1, 1, none⟩ = some (.string s))
        (first
          | exact SS'.out _ (Below.mono (show Below wr.heap.size wr _ by assumption) (Nat.le_of_lt LT.out))
          | exact SS'.out _ ((show Below (w.heap.size + 1 + 1) wr _ from Below.mono (show Below wr.heap.size wr _ by assumption) (Nat.le_of_lt LT.out)).setCell (p := ⟨w.heap.size + 1 + 1, k, none⟩) (Nat.le_refl _) _))
        (first
          | (go_at_call 58; refine (has_any _ _ k _ (by assumption) (by omega)).mono ?_; rintro e w1 ⟨rfl, hb1⟩; have T1 : Below wr.heap.size wr w1 := Below.andThen (by assumption) hb1 (Nat.le_refl _); obtain ⟨cc1, ff1⟩ := CF.out _ T1; clear hb1)
          | (refine (HQ.out _ _ _).mono ?_; rintro e w2 ⟨rfl, rfl⟩))
      have R2 : Hid (Row (w1.setCell ⟨w.heap.size + 1 + 1, k, none⟩ (encB (markU (q (hasB f r k) (hasB g s k))))) (w.heap.size + 1 + 1) 5 (fillTo n (k + 1) (.int .u8 0) fun h => encB (markU (q (hasB f r h) (hasB g s h))))) := Lib.hid (by
        have h := (hrow.out.below T1 LT.out).set k (encB (markU (q (hasB f r k) (hasB g s k))))
        rw [fillTo_set n k (.int .u8 0) (fun h => encB (markU (q (hasB f r h) (hasB g s h))))] at h; exact h)
      have T2 : Hid (Below (w.heap.size + 1 + 1) W0 w1) := Lib.hid (hbel.out.trans (T1.mono (Nat.le_of_lt LT.out)))
      clear T1 T0 cc1 ff1
      go_wp2_with fail
      go_roundw
      case rel => exact ⟨k + 1, by omega, rfl, R2, Lib.hid (T2.out.setCell (p := ⟨w.heap.size + 1 + 1, k, none⟩) (Nat.le_refl _) _)⟩
      case measure => simp [intOf]; omega
    · obtain rfl : k = n := by omega
      go_wp2_with fail
      go_ret
      refine ⟨w.heap.size + 1 + 1, rfl, by omega, ?_, ?_⟩
      · have h := hrow.out
        rw [fillTo_full] at h
        unfold joinL; rw [List.map_map]; exact h
      · exact B0.out.trans (hbel.out.mono (by omega))
end Go.Proofs.Ytbhlddfjfcmncaa
