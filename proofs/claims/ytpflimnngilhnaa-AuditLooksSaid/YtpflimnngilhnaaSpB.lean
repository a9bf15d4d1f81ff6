/- The greatest sums of rows; the greatest of numbers; what is wrong with predecessors (layer 41). -/
import Derived.Test.YtpflimnngilhnaaSpA
namespace Go.Proofs.Ytpflimnngilhnaa.rh
open Go.ChangeShapes Go.WideShapes Go.ChangeAt Go.RowKit
set_option linter.unusedVariables false
set_option linter.unusedSimpArgs false
def NPost (w : World) (n : Nat) (f : Nat → Nat) (e : Ending) (w' : World) : Prop := ∃ S, e = .returned (.slice (some ⟨S, 0, none⟩) n n) ∧ w.heap.size ≤ S ∧ NR w' S n f ∧ Below w.heap.size w w'
set_option maxRecDepth 20000 in
set_option maxHeartbeats 2000000 in
theorem heights_of (a : Option Addr) (n cap SW : Nat) (W : Nat → Nat) (L : List (List Int)) (w : World) (h : MV w (.slice a n cap) L) (hV : Valid L) (hn : n ≤ 1000) (hW : NR w SW n W) (hb : smW W n ≤ 1000000) :
    Calls Try.prog 34 #[.slice a n cap, .slice (some ⟨SW, 0, none⟩) n n] w (NPost w n (hg L W)) := by
  obtain ⟨hnl, hnc, hcm⟩ := h.len
  have HVa := Lib.hid hV
  have H := Lib.hid h
  have HW := Lib.hid hW
  have hmk := mk_ints n (by omega)
  obtain ⟨S, hS⟩ : ∃ S, w.heap.size = S := ⟨_, rfl⟩
  have HS := Lib.hid hS
  obtain ⟨W0, hW0⟩ : ∃ W0, w.alloc (intsObj n) = W0 := ⟨_, rfl⟩
  have hr0 : Hid (NR W0 S n (LG L W 0 0)) := Lib.hid (by
    rw [← hW0, ← hS]
    refine (made_ints n w).congr fun i _ => ?_
    unfold LG
    rw [if_neg (by omega)]
    split
    · simp [mx]
    · rfl)
  have hB0 : Hid (Below w.heap.size w W0) := Lib.hid (by rw [← hW0]; go_grown)
  have HW0 := Lib.hid hW0
  have HSM := Lib.hid hb
  clear h hV hcm hnl hS hW0 hW hb
  go_enter Try.func34, Try.ntmps34
  go_wp2_with fail
  rw [HW0.out, HS.out]
  go_loopw [15] (fun i wr => ∃ (k : Nat), k ≤ n ∧ i = .int .i64 (k : Int) ∧ Hid (NR wr S n (LG L W k 0)) ∧ Hid (Below w.heap.size w wr)) (fun i _ => n - (intOf i).toNat)
  case atStart => exact ⟨0, by omega, rfl, hr0, hB0⟩
  case round =>
    clear hr0 hB0 hmk HW0
    obtain ⟨k, hk, rfl, HR, HB⟩ := hrel
    by_cases hlt : k < n
    · obtain ⟨b, o, ai, ci, rfl, hbl, hcl, hv⟩ := (H.out.below HB.out).row k hlt
      obtain ⟨_, hm1, hm2⟩ := hv.len
      obtain ⟨b', o', ai', ci', eb, hbl', hcl', hv'⟩ := H.out.row k hlt
      have hcl2 := (HB.out.cell (p := ⟨b', o' + k, none⟩) hbl').trans hcl'
      cases eb
      rw [hcl] at hcl2
      cases hcl2
      unfold maxLen at hm2
      have HV := Lib.hid hv'
      obtain ⟨m, hm⟩ : ∃ m, (L.getD k []).length = m := ⟨_, rfl⟩
      rw [hm] at hcl HV hm1
      have HM := Lib.hid hm
      clear hv hv' hm hcl' hbl'
      go_wp2_with fail
      go_loopw [22] (fun i wi => ∃ (j : Nat), j ≤ m ∧ i = .int .i64 (j : Int) ∧ Hid (NR wi S n (LG L W k j)) ∧ Hid (Below w.heap.size w wi)) (fun i _ => m - (intOf i).toNat)
      case atStart => exact ⟨0, by omega, rfl, HR, HB⟩
      case round =>
        clear HR HB hcl
        obtain ⟨j, hj, rfl, HR, HB⟩ := hrel
        have hfz := World.rowIs.frozen HR.out k
        obtain ⟨x, hx⟩ : ∃ x, LG L W k j k = x := ⟨_, rfl⟩
        have hxl : x ≤ 1000000 := by rw [← hx]; exact Nat.le_trans (lg_le HVa.out W hk) HSM.out
        have hcx := HR.out.at k x hlt hx
        have HX := Lib.hid hx
        clear hx
        by_cases hjl : j < m
        · obtain ⟨b2, o2, rfl, hbl2, hcy⟩ := (HV.out.below HB.out).at j hjl
          obtain ⟨y, hy⟩ : ∃ y, (L.getD k []).getD j 0 = y := ⟨_, rfl⟩
          rw [hy] at hcy
          have hyv := HVa.out k y (by rw [← hy]; exact getD_mem (by rw [HM.out]; exact hjl))
          obtain ⟨a, rfl⟩ : ∃ a : Nat, y = (a : Int) := ⟨y.toNat, by omega⟩
          have hak : a < k := by omega
          have han : a < n := by omega
          have han2 : (a : Int) < (n : Int) := by omega
          have han3 : (0 : Int) ≤ (a : Int) := by omega
          obtain ⟨v, hv⟩ : ∃ v, LG L W k j a = v := ⟨_, rfl⟩
          have hcv := HR.out.at a v han hv
          obtain ⟨r, hr⟩ : ∃ r, max x v = r := ⟨_, rfl⟩
          have hmax : (if x < v then (v : Int) else (x : Int)) = (r : Int) := by rw [← hr, ← max_int]; simp
          have HE : Hid (∀ i, (if i = k then r else LG L W k j i) = LG L W k (j + 1) i) := Lib.hid fun i => by
            rw [← lg_step (by rw [HM.out]; exact hjl) hy hak, HX.out, hv, hr]
          clear hv hr hy
          go_wp2_with fail
          go_region
          go_wp2_with fail
          have h5 := ((HR.out.set k r).congr fun i _ => HE.out i).below (w' := (wr.setCell ⟨S, k, none⟩ (.int .i64 (r : Int))).drew) (by go_grown)
          have hb5 : Below w.heap.size w (wr.setCell ⟨S, k, none⟩ (.int .i64 (r : Int))).drew := (HB.out.setCell (p := ⟨S, k, none⟩) (by rw [HS.out]; exact Nat.le_refl _) _).drew
          have H5 := Lib.hid h5
          have HB5 := Lib.hid hb5
          go_roundw
          case rel => exact ⟨j + 1, by omega, by go_num, H5, HB5⟩
          case measure => simp [intOf]; omega
        · obtain rfl : j = m := by omega
          obtain ⟨q, hq⟩ : ∃ q, W k = q := ⟨_, rfl⟩
          have hql : q ≤ 1000000 := by
            have := smW_mono W (k + 1) n hlt
            have := HSM.out
            simp only [smW] at *
            omega
          have hcq := (HW.out.below HB.out).at k q hlt hq
          obtain ⟨r, hr⟩ : ∃ r, x + q = r := ⟨_, rfl⟩
          have HE : Hid (∀ i, (if i = k then r else LG L W k j i) = LG L W (k + 1) 0 i) := Lib.hid fun i => by
            rw [← lg_next HVa.out W HM.out, HX.out, hq, hr]
          have hadd : (x : Int) + (q : Int) = (r : Int) := by omega
          have hwr : IntKind.i64.wrap ((x : Int) + (q : Int)) = (r : Int) := by rw [hadd, IntKind.wrap_i64]; omega
          have hwr2 : IntKind.i64.wrap (r : Int) = (r : Int) := by rw [IntKind.wrap_i64]; omega
          clear hr hq
          go_wp2_with fail
          go_region
          go_wp2_with fail
          have h5 := ((HR.out.set k r).congr fun i _ => HE.out i).below (w' := (wr.setCell ⟨S, k, none⟩ (.int .i64 (r : Int))).drew) (by go_grown)
          have hb5 : Below w.heap.size w (wr.setCell ⟨S, k, none⟩ (.int .i64 (r : Int))).drew := (HB.out.setCell (p := ⟨S, k, none⟩) (by rw [HS.out]; exact Nat.le_refl _) _).drew
          have H5 := Lib.hid h5
          have HB5 := Lib.hid hb5
          go_roundw
          case rel => exact ⟨k + 1, by omega, by go_num, H5, HB5⟩
          case measure => simp [intOf]; omega
    · obtain rfl : k = n := by omega
      go_wp2_with fail
      go_ret
      refine ⟨S, rfl, by rw [HS.out]; exact Nat.le_refl _, HR.out.congr fun i hi => ?_, HB.out⟩
      unfold LG
      rw [if_pos hi]
theorem greatest_of (n S : Nat) (f : Nat → Nat) (w : World) (h : NR w S n f) (hn : n ≤ 2000) :
    Calls Try.prog 33 #[.slice (some ⟨S, 0, none⟩) n n] w fun e w' => e = .returned (.int .i64 ((gt f n : Nat) : Int)) ∧ w = w' := by
  have H := Lib.hid h
  clear h
  go_enter Try.func33, Try.ntmps33
  go_wp2_with fail
  go_loop [3, 8] (fun m i => ∃ k : Nat, k ≤ n ∧ i = .int .i64 (k : Int) ∧ m = .int .i64 ((gt f k : Nat) : Int)) (fun _ i => n - (intOf i).toNat)
  case atStart => exact ⟨0, by omega, rfl, rfl⟩
  case round =>
    obtain ⟨k, hk, rfl, rfl⟩ := hrel
    obtain ⟨x, hx⟩ : ∃ x, gt f k = x := ⟨_, rfl⟩
    rw [hx]
    by_cases hlt : k < n
    · obtain ⟨v, hv⟩ : ∃ v, f k = v := ⟨_, rfl⟩
      have hc := H.out.at k v hlt hv
      obtain ⟨r, hr⟩ : ∃ r, max x v = r := ⟨_, rfl⟩
      have hmax : (if x < v then (v : Int) else (x : Int)) = (r : Int) := by rw [← hr, ← max_int]; simp
      have HE : Hid (gt f (k + 1) = r) := Lib.hid (by rw [gt, hx, hv, hr])
      clear hx hv hr
      go_wp2_with fail
      go_round
      case rel => exact ⟨k + 1, by omega, by go_num, by rw [HE.out]⟩
      case measure => simp [intOf]; omega
    · obtain rfl : k = n := by omega
      have HX := Lib.hid hx
      clear hx
      go_wp2_with fail
      go_ret
      exact ⟨by rw [HX.out]; rfl, rfl⟩
theorem scheck_bad (a : Option Addr) (n cap : Nat) (L : List (List Int)) (c : Int) (w : World) (h : MV w (.slice a n cap) L) (hc : ck L = c) (h0 : c = 9 ∨ c = 3) :
    Calls Try.prog 32 #[.slice a n cap] w fun e w' => e = .returned (.int .i64 c) ∧ w = w' := by
  have C := Lib.hid (new_bad a n cap L c w h hc h0)
  clear h hc h0
  go_enter Try.func32, Try.ntmps32
  go_wp2_with (first | (go_at_call 43; (with_reducible refine C.out.mono ?_); rintro e w1 ⟨rfl, rfl⟩))
  go_ret
  exact ⟨rfl, rfl⟩
theorem scheck_of (a : Option Addr) (n cap : Nat) (L : List (List Int)) (w : World) (h : MV w (.slice a n cap) L) (hc : ck L = 0) :
    Calls Try.prog 32 #[.slice a n cap] w fun e w' => e = .returned (.int .i64 0) ∧ Below w.heap.size w w' := by
  have C := Lib.hid (new_of a n cap L w h hc)
  clear h hc
  go_enter Try.func32, Try.ntmps32
  go_wp2_with (first | (go_at_call 43; (with_reducible refine C.out.mono ?_); rintro e w1 ⟨R, S, rfl, _, HB⟩))
  go_ret
  exact ⟨rfl, HB⟩
end Go.Proofs.Ytpflimnngilhnaa.rh
