/- What lies ahead of each: made (layer 31). -/
import Derived.Test.YtpflimnngilhnaaRhD
import Derived.Test.YtpflimnngilhnaaRhF
namespace Go.Proofs.Ytpflimnngilhnaa.rh
open Go.ChangeShapes Go.WideShapes Go.ChangeAt Go.RowKit
set_option linter.unusedVariables false
set_option linter.unusedSimpArgs false
def zs : Array Value := Array.replicate 16 (.int .u64 0)
def setsObj (n : Nat) : Obj := .cells (madeCells zs (n * 16)) 103
theorem infoSet : (Try.prog.info? 103).map (fun i => (i.zero, i.size, i.bytes)) = some (some (.agg zs), 16, 128) := by kernel_rfl
theorem run_make_cells (P : Program) (t e : TypeId) (z : Value) (size bytes : Nat) (ht : P.underlying t = some (.slice e)) (hinfo : (P.info? e).map (fun i => (i.zero, i.size, i.bytes)) = some (some z, size, bytes))
    (kl kc : IntKind) (n : Nat) (hbytes : bytes * n ≤ 281474976710656) (h63 : n ≤ 9223372036854775807) (w : World) :
    (Instr.makeSlice t (.int kl (n : Int)) (.int kc (n : Int))).run P w = .ok (.slice (some ⟨w.heap.size, 0, none⟩) n n) (w.alloc (.cells (madeCells z.cells (n * size)) e)) := by
  obtain ⟨i, hi, hzz⟩ := Option.map_eq_some_iff.1 hinfo
  simp only [Prod.mk.injEq] at hzz
  obtain ⟨hz, hs, hb⟩ := hzz
  have hb' : (i.bytes : Int) * (n : Int) ≤ 281474976710656 := by
    have h : ((i.bytes * n : Nat) : Int) ≤ 281474976710656 := by rw [hb]; omega
    rwa [Int.natCast_mul] at h
  have hr := run_make (P := P) w t e i z ht hi hz kl kc n n (by omega) (Int.le_refl _) hb' (by omega)
  simp only [Int.toNat_natCast, hs] at hr
  exact hr
theorem mk_sets (n : Nat) (hn : n ≤ 1000) (w : World) : (Instr.makeSlice 98 (.int .i64 (n : Int)) (.int .i64 (n : Int))).run Try.prog w = .ok (.slice (some ⟨w.heap.size, 0, none⟩) n n) (w.alloc (setsObj n)) := by
  have h := run_make_cells Try.prog 98 103 (.agg zs) 16 128 Try.underlying98 infoSet .i64 .i64 n (by omega) (by omega) w
  rw [h]
  rfl
theorem zs_at : ∀ r, r < 16 → zs[r]! = .int .u64 0 := by
  intro r hr
  simp [zs, hr]
theorem made_sets (n : Nat) (w : World) : (w.alloc (setsObj n)).rowIs w.heap.size 103 (n * 16) (fun _ => .int .u64 0) :=
  ⟨madeCells zs (n * 16), by show (w.heap.push _)[w.heap.size]? = _; rw [Array.getElem?_push_size]; rfl, size_madeCells _ _, fun i hi => by
    have h : i % 16 < 16 := Nat.mod_lt _ (by decide)
    have h2 := zs_at _ h
    have hz : zs.size = 16 := by simp [zs]
    simp only [madeCells, hz]
    simp [hi, h2]⟩
/-- At R: what lies ahead of each of n things, its sets at S. -/
def RO (w : World) (R S n : Nat) (L : List (List Int)) : Prop :=
  w.heap[R]? = some (.cells #[.slice (some ⟨S, 0, none⟩) n n] 100 (0, 0)) ∧ ∃ f, SR w S 103 (n * 16) f ∧ FA L n f
theorem RO.below {w w' : World} {R S n : Nat} {L : List (List Int)} (h : RO w R S n L) (hb : Below w.heap.size w w') : RO w' R S n L := by
  obtain ⟨h1, f, h2, h3⟩ := h
  exact ⟨(hb.block R (Array.getElem?_eq_some_iff.1 h1).1).trans h1, f, h2.below hb, h3⟩
theorem RO.cell {w : World} {R S n : Nat} {L : List (List Int)} (h : RO w R S n L) : w.cell? ⟨R, 0, none⟩ = some (.slice (some ⟨S, 0, none⟩) n n) := by
  simp [World.cell?, h.1]
def NewPost (w : World) (n : Nat) (L : List (List Int)) (e : Ending) (w' : World) : Prop :=
  ∃ R S, e = .returned (.tuple #[.pointer (some ⟨R, 0, none⟩), .int .i64 0]) ∧ RO w' R S n L ∧ Below w.heap.size w w'
theorem new_bad (a : Option Addr) (n cap : Nat) (L : List (List Int)) (c : Int) (w : World) (h : MV w (.slice a n cap) L) (hc : ck L = c) (h0 : c = 9 ∨ c = 3) :
    Calls Try.prog 43 #[.slice a n cap] w fun e w' => e = .returned (.tuple #[.pointer none, .int .i64 c]) ∧ w = w' := by
  have C := Lib.hid (check_of a n cap L c w h hc)
  clear h hc
  rcases h0 with rfl | rfl
  all_goals
    go_enter Try.func43, Try.ntmps43
    go_wp2_with (first | (go_at_call 49; refine C.out.mono ?_; rintro e w1 ⟨rfl, rfl⟩))
    go_ret2
    exact ⟨rfl, rfl⟩
theorem heap_box (w : World) (o : Obj) (v : Array Value) (t : TypeId) : ((w.alloc o).alloc (.cells v t)).heap[w.heap.size + 1]? = some (.cells v t (0, 0)) := by
  show ((w.heap.push o).push _)[w.heap.size + 1]? = _
  have h : (w.heap.push o).size = w.heap.size + 1 := Array.size_push ..
  rw [← h, Array.getElem?_push_size]
set_option maxRecDepth 20000 in
set_option maxHeartbeats 2000000 in
theorem new_of (a : Option Addr) (n cap : Nat) (L : List (List Int)) (w : World) (h : MV w (.slice a n cap) L) (hc : ck L = 0) :
    Calls Try.prog 43 #[.slice a n cap] w (NewPost w n L) := by
  obtain ⟨hnl, hnc, hcm⟩ := h.len
  have hn : n ≤ 1000 := by have := ck_cases L; omega
  have hV : Valid L := valid_of (by have := ck_cases L; rcases this with h | h | h; omega; omega; exact h.2.2)
  have HVa := Lib.hid hV
  have C := Lib.hid (check_of a n cap L 0 w h hc)
  have H := Lib.hid h
  have HN := Lib.hid hnl
  have hmk := mk_sets n hn
  obtain ⟨S, hS⟩ : ∃ S, w.heap.size = S := ⟨_, rfl⟩
  have HS := Lib.hid hS
  obtain ⟨W0, hW0⟩ : ∃ W0, (w.alloc (setsObj n)).alloc (.cells #[.slice (some ⟨w.heap.size, 0, none⟩) n n] 100) = W0 := ⟨_, rfl⟩
  have hr0 : Hid (SR W0 S 103 (n * 16) (fun _ => 0)) := Lib.hid (by rw [← hW0, ← hS]; exact ⟨(made_sets n w).alloc _, fun _ => Nat.zero_lt_succ _⟩)
  have hR0 : Hid (W0.heap[S + 1]? = some (.cells #[.slice (some ⟨S, 0, none⟩) n n] 100 (0, 0))) := Lib.hid (by rw [← hW0, ← hS]; exact heap_box w _ _ _)
  have hB0 : Hid (Below w.heap.size w W0) := Lib.hid (by rw [← hW0]; go_grown)
  have HW0 := Lib.hid hW0
  have HF0 := Lib.hid (fb_start L n)
  clear h hc hV hcm hnl hS hW0
  go_enter Try.func43, Try.ntmps43
  go_wp2_with (first | (go_at_call 49; refine C.out.mono ?_; rintro e w1 ⟨rfl, rfl⟩))
  rw [HW0.out, HS.out]
  go_loopw [22] (fun i wr => ∃ (k : Nat) (f : Nat → Nat), k ≤ n ∧ i = .int .i64 (k : Int) ∧ Hid (SR wr S 103 (n * 16) f) ∧ Hid (FB L n f k 0) ∧ Hid (KS S W0 wr)) (fun i _ => n - (intOf i).toNat)
  case atStart => exact ⟨0, _, by omega, rfl, hr0, HF0, Lib.hid (KS.refl _ _)⟩
  case round =>
    clear hr0 HF0 C hmk HW0
    obtain ⟨k, f, hk, rfl, HR, HF, HK⟩ := hrel
    have hlR : S + 1 < W0.heap.size := (Array.getElem?_eq_some_iff.1 hR0.out).1
    have hRb : wr.heap[S + 1]? = some (.cells #[.slice (some ⟨S, 0, none⟩) n n] 100 (0, 0)) := (HK.out.2 (S + 1) (by omega) hlR).trans hR0.out
    by_cases hlt : k < n
    · have hBw : Below w.heap.size w wr := hB0.out.trans (HK.out.1.mono (by have := HS.out; omega))
      obtain ⟨b, o, ai, ci, rfl, hbl, hcl, hv⟩ := (H.out.below hBw).row k hlt
      obtain ⟨_, hm1, hm2⟩ := hv.len
      obtain ⟨b', o', ai', ci', eb, hbl', hcl', hv'⟩ := H.out.row k hlt
      have hcl2 := (hBw.cell (p := ⟨b', o' + k, none⟩) hbl').trans hcl'
      cases eb
      rw [hcl] at hcl2
      cases hcl2
      unfold maxLen at hm2
      have HV := Lib.hid hv'
      obtain ⟨m, hm⟩ : ∃ m, (L.getD k []).length = m := ⟨_, rfl⟩
      rw [hm] at hcl HV hm1
      have HM := Lib.hid hm
      have hRb2 := Lib.hid hRb
      clear hv hv' hm hcl' hbl' hRb
      go_wp2_with fail
      go_loopw [29] (fun i wi => ∃ (j : Nat) (g : Nat → Nat), j ≤ m ∧ i = .int .i64 (j : Int) ∧ Hid (SR wi S 103 (n * 16) g) ∧ Hid (FB L n g k j) ∧ Hid (KS S W0 wi)) (fun i _ => m - (intOf i).toNat)
      case atStart => exact ⟨0, f, by omega, rfl, HR, HF, HK⟩
      case round =>
        clear HR HF HK hBw hcl
        obtain ⟨j, g, hj, rfl, HR, HF, HK⟩ := hrel
        have hRb : wr.heap[S + 1]? = some (.cells #[.slice (some ⟨S, 0, none⟩) n n] 100 (0, 0)) := (HK.out.2 (S + 1) (by omega) hlR).trans hR0.out
        have hRc : wr.cell? ⟨S + 1, 0, none⟩ = some (.slice (some ⟨S, 0, none⟩) n n) := by simp [World.cell?, hRb]
        have hBw : Below w.heap.size w wr := hB0.out.trans (HK.out.1.mono (by have := HS.out; omega))
        by_cases hjl : j < m
        · obtain ⟨b2, o2, rfl, hbl2, hcx⟩ := (HV.out.below hBw).at j hjl
          obtain ⟨x, hx⟩ : ∃ x, (L.getD k []).getD j 0 = x := ⟨_, rfl⟩
          rw [hx] at hcx
          have hxv := HVa.out k x (by rw [← hx]; exact getD_mem (by rw [HM.out]; exact hjl))
          obtain ⟨a, rfl⟩ : ∃ a : Nat, x = (a : Int) := ⟨x.toNat, by omega⟩
          have hak : a < k := by omega
          have HX := Lib.hid hx
          obtain ⟨qa, ra, ha, hra, hqa⟩ : ∃ qa ra, a = 64 * qa + ra ∧ ra < 64 ∧ qa < 16 := ⟨a / 64, a % 64, by omega, by omega, by omega⟩
          have HA := Lib.hid ha
          have hb16 : k * 16 + 16 ≤ n * 16 := by omega
          clear hx hRb ha hBw
          go_wp2_with (first | (go_at_call 50; (with_reducible refine (add_of S 103 (n * 16) (k * 16) a qa ra g _ HR.out HA.out hra hqa hb16).mono ?_); rintro e w2 ⟨rfl, HR2, HK2⟩))
          have hK2 := HK.out.trans HK2
          have hRb : w2.heap[S + 1]? = some (.cells #[.slice (some ⟨S, 0, none⟩) n n] 100 (0, 0)) := (hK2.2 (S + 1) (by omega) hlR).trans hR0.out
          have hRc2 : w2.cell? ⟨S + 1, 0, none⟩ = some (.slice (some ⟨S, 0, none⟩) n n) := by simp [World.cell?, hRb]
          have HR2' := Lib.hid HR2
          have HKH := Lib.hid hK2
          have han : a < n := by omega
          have han2 : (a : Int) < (n : Int) := by omega
          have han3 : (0 : Int) ≤ (a : Int) := by omega
          clear hRb hRc hcx HR2 HK2 hK2
          go_wp2_with fail
          go_still_tail 12, (by kernel_rfl)
          change wpList _ _ _ _ _ w2.drew
          have HR3 := Lib.hid (HR2'.out.below (w' := w2.drew) (by go_grown))
          have HK3 := Lib.hid (HKH.out.trans (KS.drew S w2))
          clear HR2' HKH
          go_wp2_with (first | (go_at_call 51; (with_reducible refine (join_of S 103 (n * 16) (k * 16) (a * 16) _ _ HR3.out hb16 (by omega)).mono ?_); rintro e w3 ⟨rfl, HR4, HK4⟩))
          have HF4 : Hid (FB L n _ k (j + 1)) := Lib.hid (fb_step HF.out hlt HX.out hak hn HA.out hra hqa (fun i => rfl))
          have HR5 := Lib.hid HR4
          have HK5 := Lib.hid (HK3.out.trans HK4)
          clear HR4 HK4 HK3 HR3 hRc2
          go_wp2_with fail
          go_roundw
          case rel => exact ⟨j + 1, _, by omega, by go_num, HR5, HF4, HK5⟩
          case measure => simp [intOf]; omega
        · obtain rfl : j = m := by omega
          have HF2 := Lib.hid (fb_next HF.out HM.out)
          clear hRb hRc hBw
          go_wp2_with fail
          go_roundw
          case rel => exact ⟨k + 1, g, by omega, by go_num, HR, HF2, HK⟩
          case measure => simp [intOf]; omega
    · obtain rfl : k = n := by omega
      go_wp2_with fail
      go_ret2
      exact ⟨S + 1, S, rfl, ⟨hRb, f, HR.out, fb_end HF.out⟩, hB0.out.trans (HK.out.1.mono (by have := HS.out; omega))⟩
end Go.Proofs.Ytpflimnngilhnaa.rh
