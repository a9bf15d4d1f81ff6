/- Just once: the law ThrottleOnce answers true. No condition. -/
import Derived.Test.YtemboonjikccnabThrW
import Derived.Test.YtemboonjikccnabGrids
import Derived.Deep.DeepCutAuto
namespace Go.Proofs.Ytemboonjikccnab.throttleOnce
open Go.ChangeShapes Go.WideShapes Go.ChangeAt Go.RowKit
set_option linter.unusedVariables false
set_option linter.unusedSimpArgs false
def xs20 (t : Int) (q : Nat) (D M : Bool) : List Int := ((List.replicate 34 (0 : Int)).set (25 + 4 * q) (if D then t else 0)).set 21 (if M then t else 0)
theorem keepR {W W' : World} {R : Nat} (h : W.cell? ⟨R, 0, none⟩ = some (.int .i64 1) ∧ W.cell? ⟨R, 1, none⟩ = some (.int .i64 2) ∧ W.cell? ⟨R, 2, none⟩ = some (.int .i64 2) ∧ W.cell? ⟨R, 3, none⟩ = some (.int .i64 2) ∧ W.cell? ⟨R, 4, none⟩ = some (.int .i64 2) ∧ W.cell? ⟨R, 5, none⟩ = some (.int .i64 5)) (hb : Below W.heap.size W W') : W'.cell? ⟨R, 0, none⟩ = some (.int .i64 1) ∧ W'.cell? ⟨R, 1, none⟩ = some (.int .i64 2) ∧ W'.cell? ⟨R, 2, none⟩ = some (.int .i64 2) ∧ W'.cell? ⟨R, 3, none⟩ = some (.int .i64 2) ∧ W'.cell? ⟨R, 4, none⟩ = some (.int .i64 2) ∧ W'.cell? ⟨R, 5, none⟩ = some (.int .i64 5) :=
  ⟨keepc h.1 hb, keepc h.2.1 hb, keepc h.2.2.1 hb, keepc h.2.2.2.1 hb, keepc h.2.2.2.2.1 hb, keepc h.2.2.2.2.2 hb⟩
theorem xs_len (t : Int) (q : Nat) (D M : Bool) : (xs20 t q D M).length = 34 := by simp [xs20]
def okL : List (Bool × Bool × Bool × Bool × Int × Int × Int × Bool × Bool × Bool × Nat × Nat) := [
  (false, false, false, false, (0 : Int), (0 : Int), (0 : Int), false, false, false, 4, 3),
  (true, true, false, false, (0 : Int), (0 : Int), (0 : Int), false, false, false, 3, 3),
  (false, false, false, true, (0 : Int), (0 : Int), (1 : Int), false, false, false, 4, 2),
  (true, true, false, false, (0 : Int), (1 : Int), (0 : Int), false, false, true, 2, 3),
  (true, true, false, true, (0 : Int), (0 : Int), (1 : Int), false, false, false, 3, 2),
  (true, false, false, true, (1 : Int), (0 : Int), (1 : Int), false, false, false, 0, 2),
  (false, false, true, true, (0 : Int), (0 : Int), (3 : Int), false, false, false, 4, 0),
  (true, false, false, false, (0 : Int), (3 : Int), (0 : Int), false, false, true, 0, 3),
  (true, true, false, true, (0 : Int), (1 : Int), (1 : Int), false, false, true, 2, 2),
  (true, true, true, true, (0 : Int), (0 : Int), (3 : Int), false, false, false, 3, 0),
  (true, false, true, true, (1 : Int), (0 : Int), (3 : Int), false, false, false, 0, 0),
  (true, false, false, true, (0 : Int), (3 : Int), (1 : Int), false, false, true, 0, 2),
  (true, true, false, true, (0 : Int), (2 : Int), (1 : Int), false, false, true, 1, 2),
  (true, true, false, true, (0 : Int), (1 : Int), (2 : Int), false, false, true, 2, 1),
  (true, true, true, true, (0 : Int), (1 : Int), (3 : Int), false, false, true, 2, 0),
  (true, false, false, true, (0 : Int), (3 : Int), (2 : Int), false, false, true, 0, 1),
  (true, false, false, true, (1 : Int), (3 : Int), (1 : Int), true, false, false, 0, 2),
  (true, true, false, true, (0 : Int), (2 : Int), (2 : Int), false, false, true, 1, 1),
  (true, true, true, true, (1 : Int), (1 : Int), (3 : Int), false, true, false, 2, 0),
  (true, true, true, true, (0 : Int), (2 : Int), (3 : Int), false, false, true, 1, 0),
  (true, false, true, true, (1 : Int), (3 : Int), (3 : Int), false, true, false, 0, 0),
  (true, false, true, true, (1 : Int), (3 : Int), (3 : Int), true, false, false, 0, 0),
  (true, false, false, true, (1 : Int), (3 : Int), (2 : Int), true, false, false, 0, 1),
  (true, true, true, true, (1 : Int), (2 : Int), (3 : Int), false, true, false, 1, 0)]
theorem f4 (q : Nat) (h : q < 3) : q = 0 ∨ q = 1 ∨ q = 2 := by omega
theorem gD (t : Int) (q : Nat) (h : q < 3) (D M : Bool) : (xs20 t q D M).getD (25 + 4 * q) 0 = if D then t else 0 := by rcases f4 q h with rfl | rfl | rfl <;> rfl
theorem gM (t : Int) (q : Nat) (h : q < 3) (D M : Bool) : (xs20 t q D M).getD 21 0 = if M then t else 0 := by rcases f4 q h with rfl | rfl | rfl <;> rfl
theorem sD (t : Int) (q : Nat) (h : q < 3) (D M : Bool) : (xs20 t q D M).set (25 + 4 * q) t = xs20 t q true M := by rcases f4 q h with rfl | rfl | rfl <;> rfl
theorem sM (t : Int) (q : Nat) (h : q < 3) (D M : Bool) : (xs20 t q D M).set 21 t = xs20 t q D true := by rcases f4 q h with rfl | rfl | rfl <;> rfl
theorem sM0 (t : Int) (q : Nat) (h : q < 3) (D M : Bool) : (xs20 t q D M).set 21 0 = xs20 t q D false := by rcases f4 q h with rfl | rfl | rfl <;> rfl
theorem x00 (t : Int) (q : Nat) (h : q < 3) : List.replicate 34 (0 : Int) = xs20 t q false false := by rcases f4 q h with rfl | rfl | rfl <;> rfl
set_option maxHeartbeats 40000000 in
set_option maxRecDepth 20000 in
theorem core (i len cap : Nat) (y : Option Addr) (z : Nat → Bool) (w : World) (q : Nat) (hi : i ≤ 65535) (hlen : len ≤ 300) (hq3 : Hid (q < 3)) (hy : Hid (∀ j, j < len → ∃ b off, y = some ⟨b, off, none⟩ ∧ b < w.heap.size ∧ w.cell? ⟨b, off + j, none⟩ = some (.bool (z j))))
    (hF : Hid ((1 : Int) * (4 + 2) + (2 - 1) * (2 + (2 + 1) * 4) = 20)) (hq : Hid (((i : Nat) : Int).tmod (2 + 1) = ((q : Nat) : Int))) (hkd : Hid ((20 : Int) + 2 + ((q : Nat) : Int) * 4 + 3 = ((25 + 4 * q : Nat) : Int))) (hkn : Hid ((20 : Int) + 1 = ((21 : Nat) : Int)))
    (tt : Hid ((tOf 5 ((i : Nat) : Int) 0 == tOf 5 ((i : Nat) : Int) 0) = true)) (t0 : Hid (((0 : Int) == tOf 5 ((i : Nat) : Int) 0) = false)) (n0 : Hid ((0 : Int) ≠ tOf 5 ((i : Nat) : Int) 0)) :
    Calls Try.prog 4 #[.int .u16 i, .slice y len cap] w fun e w' => e = .returned (.bool true) ∧ Below w.heap.size w w' := by
  have h300 : ¬ (300 : Int) < (len : Int) := by omega
  have hd300 : decide ((300 : Int) < (len : Int)) = false := by simp; omega
  have wi : IntKind.i64.wrap ((i : Nat) : Int) = ((i : Nat) : Int) := by rw [IntKind.wrap_i64]; omega
  go_enter Try.func4, Try.ntmps4
  go_wp2_with (first | (go_at_call 18; refine (works20 _).mono ?_; rintro e w0 ⟨rfl, hb0⟩))
  refine (plan17 _).mono ?_
  rintro e w1 ⟨rfl, hb1⟩
  replace hb1 := btr hb0 hb1
  clear hb0
  go_wp2_with fail
  obtain ⟨W, hW⟩ : ∃ W, W = w1.alloc (Obj.cells #[Value.int IntKind.i64 1, Value.int IntKind.i64 2, Value.int IntKind.i64 2, Value.int IntKind.i64 2] 26) := ⟨_, rfl⟩
  have p0 : W.cell? ⟨w1.heap.size, 0, none⟩ = some (.int .i64 1) := by rw [hW]; go_simp
  have p1 : W.cell? ⟨w1.heap.size, 1, none⟩ = some (.int .i64 2) := by rw [hW]; go_simp
  have p2 : W.cell? ⟨w1.heap.size, 2, none⟩ = some (.int .i64 2) := by rw [hW]; go_simp
  have p3 : W.cell? ⟨w1.heap.size, 3, none⟩ = some (.int .i64 2) := by rw [hW]; go_simp
  have hb : Below w.heap.size w W := by rw [hW]; exact btr hb1 (by go_grown)
  rw [← hW]
  clear hW hb1
  generalize w1.heap.size = P at *
  refine (size_of 1 2 2 2 6 28 _ okay17 (Lib.hid (by decide)) (Lib.hid (by decide))).mono ?_
  rintro e w2 ⟨rfl, hb2⟩
  replace p0 := keepc p0 hb2
  replace p1 := keepc p1 hb2
  replace p2 := keepc p2 hb2
  replace p3 := keepc p3 hb2
  replace hb := btr hb hb2
  clear hb2
  go_wp2_with fail
  refine (new_n 34 w2 (by decide)).mono ?_
  rintro e w3 ⟨rfl, hs, hb2⟩
  have h : J w w3 (w2.heap.size + 1) w2.heap.size (List.replicate 34 0) := ⟨hs, btr hb hb2, hb.size⟩
  replace p0 := keepc p0 hb2
  replace p1 := keepc p1 hb2
  replace p2 := keepc p2 hb2
  replace p3 := keepc p3 hb2
  clear hb hb2 hs
  generalize w2.heap.size + 1 = S at *
  generalize w2.heap.size = g at *
  go_wp2_with fail
  refine (new17 2 5 w3).mono ?_
  rintro e w4 ⟨rfl, hb2⟩
  replace h := h.below' hb2
  clear hb2 p0 p1 p2 p3
  go_wp2_with fail
  obtain ⟨W, hW⟩ : ∃ W, W = w4.alloc (Obj.cells #[Value.int IntKind.i64 1, Value.int IntKind.i64 2, Value.int IntKind.i64 2, Value.int IntKind.i64 2, Value.int IntKind.i64 2, Value.int IntKind.i64 5] 32) := ⟨_, rfl⟩
  have r0 : W.cell? ⟨w4.heap.size, 0, none⟩ = some (.int .i64 1) := by rw [hW]; go_simp
  have r1 : W.cell? ⟨w4.heap.size, 1, none⟩ = some (.int .i64 2) := by rw [hW]; go_simp
  have r2 : W.cell? ⟨w4.heap.size, 2, none⟩ = some (.int .i64 2) := by rw [hW]; go_simp
  have r3 : W.cell? ⟨w4.heap.size, 3, none⟩ = some (.int .i64 2) := by rw [hW]; go_simp
  have r4 : W.cell? ⟨w4.heap.size, 4, none⟩ = some (.int .i64 2) := by rw [hW]; go_simp
  have r5 : W.cell? ⟨w4.heap.size, 5, none⟩ = some (.int .i64 5) := by rw [hW]; go_simp
  have hb : Below w4.heap.size w4 W := by rw [hW]; go_grown
  rw [← hW]
  clear hW
  have hR : Hid (w4.heap.size ≠ g) := Lib.hid (by have := h.1.facts.2.2.2.2.2; omega)
  replace h := h.below' hb
  clear hb
  generalize w4.heap.size = R at *
  go_wp2_with fail
  go_region_held3 (fun w' => w'.cell? ⟨R, 0, none⟩ = some (.int .i64 1) ∧ w'.cell? ⟨R, 1, none⟩ = some (.int .i64 2) ∧ w'.cell? ⟨R, 2, none⟩ = some (.int .i64 2) ∧ w'.cell? ⟨R, 3, none⟩ = some (.int .i64 2) ∧ w'.cell? ⟨R, 4, none⟩ = some (.int .i64 2) ∧ w'.cell? ⟨R, 5, none⟩ = some (.int .i64 5)) (first | (with_reducible assumption) | exact keepR (by with_reducible assumption) hb6 | exact keepR (by with_reducible assumption) hb5 | exact ⟨r0, r1, r2, r3, r4, r5⟩)
    (first | (go_at_call 20; refine (tsleep_new 2 5 i _).mono ?_; rintro e w5 ⟨A, rfl, hA, hnap, hb5⟩) | (go_at_call 21; refine (tclose_new 2 5 i _).mono ?_; rintro e w6 ⟨C, rfl, hC, hwake, hb6⟩))
  have hbd : Below W.heap.size W W.drew := by go_grown
  have hb5' : Below W.heap.size W w5 := btr hbd hb5
  have hb6' : Below W.heap.size W w6 := btr hb5' hb6
  have hA' : W.heap.size ≤ A := hA
  have hAl := lt_of_heap hnap
  have hAg : Hid (A ≠ g) := Lib.hid (by have := h.1.facts.2.2.2.2.2; omega)
  have hAS : Hid (A ≠ S) := Lib.hid (by have := h.1.facts.2.2.2.2.1; omega)
  have hA0 : Hid (w.heap.size ≤ A) := Lib.hid (by have := h.2.1.size; omega)
  have hRl := World.block_lt_of_cell? _ _ r0
  simp only at hRl
  have hRA : Hid (R ≠ A) := Lib.hid (by omega)
  have hsz5 := hb5'.size
  have hCg : Hid (C ≠ g) := Lib.hid (by have := h.1.facts.2.2.2.2.2; omega)
  have hCS : Hid (C ≠ S) := Lib.hid (by have := h.1.facts.2.2.2.2.1; omega)
  have hC0 : Hid (w.heap.size ≤ C) := Lib.hid (by have := h.2.1.size; omega)
  have hRC : Hid (R ≠ C) := Lib.hid (by omega)
  have hAC : Hid (A ≠ C) := Lib.hid (by omega)
  replace r0 := keepc r0 hb6'
  replace r1 := keepc r1 hb6'
  replace r2 := keepc r2 hb6'
  replace r3 := keepc r3 hb6'
  replace r4 := keepc r4 hb6'
  replace r5 := keepc r5 hb6'
  replace hnap : NapAt w6 A 2 5 i 0 false := (hb6.block A hAl).trans hnap
  replace h := h.below' hb6'
  clear hbd hb5 hb5' hb6 hb6' hA hA' hC hAl hRl hsz5
  go_wp2_with fail
  rw [x00 (tOf 5 ((i : Nat) : Int) 0) q hq3.out] at h
  go_loopw [11, 12, 13, 14, 15, 16] (fun l1 l2 l3 l4 l5 l6 wr => ∃ (lk sl ov tl : Bool) (gn np wp : Int) (lp lw M : Bool) (a c k : Nat), l1 = .bool lk ∧ l2 = .bool sl ∧ l3 = .bool ov ∧ l4 = .bool tl ∧ l5 = .int .i64 gn ∧ l6 = .int .i64 k ∧ k ≤ len + 20 ∧ (lk, sl, ov, tl, gn, np, wp, lp, lw, M, a, c) ∈ okL ∧ (a = 0 ∨ a + ((k + 1) / 2 - (len + 1) / 2) ≤ 4) ∧ (c = 0 ∨ c + (k / 2 - len / 2) ≤ 3) ∧ J w wr S g (xs20 (tOf 5 ((i : Nat) : Int) 0) q tl M) ∧ NapAt wr A 2 5 i np lp ∧ WakeAt wr C 2 5 i wp lw ∧ wr.cell? ⟨R, 0, none⟩ = some (.int .i64 1) ∧ wr.cell? ⟨R, 1, none⟩ = some (.int .i64 2) ∧ wr.cell? ⟨R, 2, none⟩ = some (.int .i64 2) ∧ wr.cell? ⟨R, 3, none⟩ = some (.int .i64 2) ∧ wr.cell? ⟨R, 4, none⟩ = some (.int .i64 2) ∧ wr.cell? ⟨R, 5, none⟩ = some (.int .i64 5)) (fun _ _ _ _ _ l6 _ => len + 20 - (intOf l6).toNat)
  case atStart => exact ⟨false, false, false, false, 0, 0, 0, false, false, false, 4, 3, 0, rfl, rfl, rfl, rfl, rfl, rfl, by omega, by decide, by omega, by omega, h, hnap, hwake, r0, r1, r2, r3, r4, r5⟩
  case round =>
    clear h hnap hwake r0 r1 r2 r3 r4 r5
    obtain ⟨lk, sl, ov, tl, gn, np, wp, lp, lw, M, a, c, k, rfl, rfl, rfl, rfl, rfl, rfl, hk, hok, ha, hc, h, hnap, hwake, r0, r1, r2, r3, r4, r5⟩ := hrel
    have HA := Lib.hid (And.intro ha hc)
    clear ha hc
    by_cases hlt : k < len + 20
    · have hlt' : (k : Int) < (len : Int) + 20 := by omega
      by_cases hkl : k < len
      · have hkl' : (k : Int) < (len : Int) := by omega
        obtain ⟨yb, off, rfl, hyb, hz⟩ := hy.out k hkl
        have hz' : wr.cell? ⟨yb, off + k, none⟩ = some (.bool (z k)) := (h.2.1.cell (p := ⟨yb, off + k, none⟩) hyb).trans hz
        have HZ := Lib.hid hz
        clear hz
        generalize z k = zk at hz'
        cases zk
        · simp only [okL, List.mem_cons, Prod.mk.injEq, List.not_mem_nil, or_false] at hok
          rcases hok with ⟨rfl, rfl, rfl, rfl, rfl, rfl, rfl, rfl, rfl, rfl, rfl, rfl⟩ | ⟨rfl, rfl, rfl, rfl, rfl, rfl, rfl, rfl, rfl, rfl, rfl, rfl⟩ | ⟨rfl, rfl, rfl, rfl, rfl, rfl, rfl, rfl, rfl, rfl, rfl, rfl⟩ | ⟨rfl, rfl, rfl, rfl, rfl, rfl, rfl, rfl, rfl, rfl, rfl, rfl⟩ | ⟨rfl, rfl, rfl, rfl, rfl, rfl, rfl, rfl, rfl, rfl, rfl, rfl⟩ | ⟨rfl, rfl, rfl, rfl, rfl, rfl, rfl, rfl, rfl, rfl, rfl, rfl⟩ | ⟨rfl, rfl, rfl, rfl, rfl, rfl, rfl, rfl, rfl, rfl, rfl, rfl⟩ | ⟨rfl, rfl, rfl, rfl, rfl, rfl, rfl, rfl, rfl, rfl, rfl, rfl⟩ | ⟨rfl, rfl, rfl, rfl, rfl, rfl, rfl, rfl, rfl, rfl, rfl, rfl⟩ | ⟨rfl, rfl, rfl, rfl, rfl, rfl, rfl, rfl, rfl, rfl, rfl, rfl⟩ | ⟨rfl, rfl, rfl, rfl, rfl, rfl, rfl, rfl, rfl, rfl, rfl, rfl⟩ | ⟨rfl, rfl, rfl, rfl, rfl, rfl, rfl, rfl, rfl, rfl, rfl, rfl⟩ | ⟨rfl, rfl, rfl, rfl, rfl, rfl, rfl, rfl, rfl, rfl, rfl, rfl⟩ | ⟨rfl, rfl, rfl, rfl, rfl, rfl, rfl, rfl, rfl, rfl, rfl, rfl⟩ | ⟨rfl, rfl, rfl, rfl, rfl, rfl, rfl, rfl, rfl, rfl, rfl, rfl⟩ | ⟨rfl, rfl, rfl, rfl, rfl, rfl, rfl, rfl, rfl, rfl, rfl, rfl⟩ | ⟨rfl, rfl, rfl, rfl, rfl, rfl, rfl, rfl, rfl, rfl, rfl, rfl⟩ | ⟨rfl, rfl, rfl, rfl, rfl, rfl, rfl, rfl, rfl, rfl, rfl, rfl⟩ | ⟨rfl, rfl, rfl, rfl, rfl, rfl, rfl, rfl, rfl, rfl, rfl, rfl⟩ | ⟨rfl, rfl, rfl, rfl, rfl, rfl, rfl, rfl, rfl, rfl, rfl, rfl⟩ | ⟨rfl, rfl, rfl, rfl, rfl, rfl, rfl, rfl, rfl, rfl, rfl, rfl⟩ | ⟨rfl, rfl, rfl, rfl, rfl, rfl, rfl, rfl, rfl, rfl, rfl, rfl⟩ | ⟨rfl, rfl, rfl, rfl, rfl, rfl, rfl, rfl, rfl, rfl, rfl, rfl⟩ | ⟨rfl, rfl, rfl, rfl, rfl, rfl, rfl, rfl, rfl, rfl, rfl, rfl⟩
          · go_wp2_with fail
            refine (wake_tells S g C (25 + 4 * q) _ 2 5 i 20 q false w _ h hwake hCg hCS hC0 (by decide) (by decide) hF (by omega) hq (by rw [xs_len]; have := hq3.out; omega) (by rw [xs_len]; decide) hkd).mono ?_
            rintro e wz ⟨rfl, hj, hob, hk2⟩
            rw [sD _ q hq3.out] at hj
            replace h := hj
            replace hnap := (hk2.block hnap hAg.out hAC.out)
            replace hwake := hob
            replace r0 := hk2.cell r0 hR.out hRC.out
            replace r1 := hk2.cell r1 hR.out hRC.out
            replace r2 := hk2.cell r2 hR.out hRC.out
            replace r3 := hk2.cell r3 hR.out hRC.out
            replace r4 := hk2.cell r4 hR.out hRC.out
            replace r5 := hk2.cell r5 hR.out hRC.out
            clear hj hob hk2
            go_wp2_with fail
            go_roundw
            case rel => exact ⟨false, false, false, true, 0, 0, 1, false, false, false, 4, 2, k + 1, rfl, rfl, rfl, rfl, rfl, by go_num, by omega, by decide, by have := HA.out.1; omega, by have := HA.out.2; omega, h, hnap, hwake, r0, r1, r2, r3, r4, r5⟩
            case measure => simp [intOf]; omega
          · go_wp2_with fail
            refine (wake_tells S g C (25 + 4 * q) _ 2 5 i 20 q false w _ h hwake hCg hCS hC0 (by decide) (by decide) hF (by omega) hq (by rw [xs_len]; have := hq3.out; omega) (by rw [xs_len]; decide) hkd).mono ?_
            rintro e wz ⟨rfl, hj, hob, hk2⟩
            rw [sD _ q hq3.out] at hj
            replace h := hj
            replace hnap := (hk2.block hnap hAg.out hAC.out)
            replace hwake := hob
            replace r0 := hk2.cell r0 hR.out hRC.out
            replace r1 := hk2.cell r1 hR.out hRC.out
            replace r2 := hk2.cell r2 hR.out hRC.out
            replace r3 := hk2.cell r3 hR.out hRC.out
            replace r4 := hk2.cell r4 hR.out hRC.out
            replace r5 := hk2.cell r5 hR.out hRC.out
            clear hj hob hk2
            go_wp2_with fail
            go_roundw
            case rel => exact ⟨true, true, false, true, 0, 0, 1, false, false, false, 3, 2, k + 1, rfl, rfl, rfl, rfl, rfl, by go_num, by omega, by decide, by have := HA.out.1; omega, by have := HA.out.2; omega, h, hnap, hwake, r0, r1, r2, r3, r4, r5⟩
            case measure => simp [intOf]; omega
          · go_wp2_with fail
            refine (wake_looks_no S g C 21 _ 2 5 i 20 q false w _ h hwake hCg hCS hC0 (by decide) (by decide) hF (by omega) hq (by rw [xs_len]; have := hq3.out; omega) (by rw [xs_len]; decide) hkn 0 (Lib.hid (gM _ q hq3.out _ _)) t0).mono ?_
            rintro e wz ⟨rfl, hj, hob, hk2⟩
            replace h := hj
            replace hnap := (hk2.block hnap hAg.out hAC.out)
            replace hwake := hob
            replace r0 := hk2.cell r0 hR.out hRC.out
            replace r1 := hk2.cell r1 hR.out hRC.out
            replace r2 := hk2.cell r2 hR.out hRC.out
            replace r3 := hk2.cell r3 hR.out hRC.out
            replace r4 := hk2.cell r4 hR.out hRC.out
            replace r5 := hk2.cell r5 hR.out hRC.out
            clear hj hob hk2
            go_wp2_with (first | (go_at_call 26; refine (wake_got C 2 5 i 3 false _ hwake).mono ?_; rintro e wy ⟨rfl, rfl⟩))
            go_roundw
            case rel => exact ⟨false, false, true, true, 0, 0, 3, false, false, false, 4, 0, k + 1, rfl, rfl, rfl, rfl, rfl, by go_num, by omega, by decide, by have := HA.out.1; omega, by have := HA.out.2; omega, h, hnap, hwake, r0, r1, r2, r3, r4, r5⟩
            case measure => simp [intOf]; omega
          · go_wp2_with fail
            refine (wake_tells S g C (25 + 4 * q) _ 2 5 i 20 q false w _ h hwake hCg hCS hC0 (by decide) (by decide) hF (by omega) hq (by rw [xs_len]; have := hq3.out; omega) (by rw [xs_len]; decide) hkd).mono ?_
            rintro e wz ⟨rfl, hj, hob, hk2⟩
            rw [sD _ q hq3.out] at hj
            replace h := hj
            replace hnap := (hk2.block hnap hAg.out hAC.out)
            replace hwake := hob
            replace r0 := hk2.cell r0 hR.out hRC.out
            replace r1 := hk2.cell r1 hR.out hRC.out
            replace r2 := hk2.cell r2 hR.out hRC.out
            replace r3 := hk2.cell r3 hR.out hRC.out
            replace r4 := hk2.cell r4 hR.out hRC.out
            replace r5 := hk2.cell r5 hR.out hRC.out
            clear hj hob hk2
            go_wp2_with fail
            go_roundw
            case rel => exact ⟨true, true, false, true, 0, 1, 1, false, false, true, 2, 2, k + 1, rfl, rfl, rfl, rfl, rfl, by go_num, by omega, by decide, by have := HA.out.1; omega, by have := HA.out.2; omega, h, hnap, hwake, r0, r1, r2, r3, r4, r5⟩
            case measure => simp [intOf]; omega
          · go_wp2_with fail
            refine (wake_looks_no S g C 21 _ 2 5 i 20 q false w _ h hwake hCg hCS hC0 (by decide) (by decide) hF (by omega) hq (by rw [xs_len]; have := hq3.out; omega) (by rw [xs_len]; decide) hkn 0 (Lib.hid (gM _ q hq3.out _ _)) t0).mono ?_
            rintro e wz ⟨rfl, hj, hob, hk2⟩
            replace h := hj
            replace hnap := (hk2.block hnap hAg.out hAC.out)
            replace hwake := hob
            replace r0 := hk2.cell r0 hR.out hRC.out
            replace r1 := hk2.cell r1 hR.out hRC.out
            replace r2 := hk2.cell r2 hR.out hRC.out
            replace r3 := hk2.cell r3 hR.out hRC.out
            replace r4 := hk2.cell r4 hR.out hRC.out
            replace r5 := hk2.cell r5 hR.out hRC.out
            clear hj hob hk2
            go_wp2_with (first | (go_at_call 26; refine (wake_got C 2 5 i 3 false _ hwake).mono ?_; rintro e wy ⟨rfl, rfl⟩))
            go_roundw
            case rel => exact ⟨true, true, true, true, 0, 0, 3, false, false, false, 3, 0, k + 1, rfl, rfl, rfl, rfl, rfl, by go_num, by omega, by decide, by have := HA.out.1; omega, by have := HA.out.2; omega, h, hnap, hwake, r0, r1, r2, r3, r4, r5⟩
            case measure => simp [intOf]; omega
          · go_wp2_with fail
            refine (wake_looks_no S g C 21 _ 2 5 i 20 q false w _ h hwake hCg hCS hC0 (by decide) (by decide) hF (by omega) hq (by rw [xs_len]; have := hq3.out; omega) (by rw [xs_len]; decide) hkn 0 (Lib.hid (gM _ q hq3.out _ _)) t0).mono ?_
            rintro e wz ⟨rfl, hj, hob, hk2⟩
            replace h := hj
            replace hnap := (hk2.block hnap hAg.out hAC.out)
            replace hwake := hob
            replace r0 := hk2.cell r0 hR.out hRC.out
            replace r1 := hk2.cell r1 hR.out hRC.out
            replace r2 := hk2.cell r2 hR.out hRC.out
            replace r3 := hk2.cell r3 hR.out hRC.out
            replace r4 := hk2.cell r4 hR.out hRC.out
            replace r5 := hk2.cell r5 hR.out hRC.out
            clear hj hob hk2
            go_wp2_with (first | (go_at_call 26; refine (wake_got C 2 5 i 3 false _ hwake).mono ?_; rintro e wy ⟨rfl, rfl⟩))
            go_roundw
            case rel => exact ⟨true, false, true, true, 1, 0, 3, false, false, false, 0, 0, k + 1, rfl, rfl, rfl, rfl, rfl, by go_num, by omega, by decide, by have := HA.out.1; omega, by have := HA.out.2; omega, h, hnap, hwake, r0, r1, r2, r3, r4, r5⟩
            case measure => simp [intOf]; omega
          · go_wp2_with fail
            go_roundw
            case rel => exact ⟨false, false, true, true, 0, 0, 3, false, false, false, 4, 0, k + 1, rfl, rfl, rfl, rfl, rfl, by go_num, by omega, by decide, by have := HA.out.1; omega, by have := HA.out.2; omega, h, hnap, hwake, r0, r1, r2, r3, r4, r5⟩
            case measure => simp [intOf]; omega
          · go_wp2_with fail
            refine (wake_tells S g C (25 + 4 * q) _ 2 5 i 20 q false w _ h hwake hCg hCS hC0 (by decide) (by decide) hF (by omega) hq (by rw [xs_len]; have := hq3.out; omega) (by rw [xs_len]; decide) hkd).mono ?_
            rintro e wz ⟨rfl, hj, hob, hk2⟩
            rw [sD _ q hq3.out] at hj
            replace h := hj
            replace hnap := (hk2.block hnap hAg.out hAC.out)
            replace hwake := hob
            replace r0 := hk2.cell r0 hR.out hRC.out
            replace r1 := hk2.cell r1 hR.out hRC.out
            replace r2 := hk2.cell r2 hR.out hRC.out
            replace r3 := hk2.cell r3 hR.out hRC.out
            replace r4 := hk2.cell r4 hR.out hRC.out
            replace r5 := hk2.cell r5 hR.out hRC.out
            clear hj hob hk2
            go_wp2_with fail
            go_roundw
            case rel => exact ⟨true, false, false, true, 0, 3, 1, false, false, true, 0, 2, k + 1, rfl, rfl, rfl, rfl, rfl, by go_num, by omega, by decide, by have := HA.out.1; omega, by have := HA.out.2; omega, h, hnap, hwake, r0, r1, r2, r3, r4, r5⟩
            case measure => simp [intOf]; omega
          · go_wp2_with fail
            refine (wake_looks_yes S g C 21 _ 2 5 i 20 q false w _ h hwake hCg hCS hC0 (by decide) (by decide) hF (by omega) hq (by rw [xs_len]; have := hq3.out; omega) (by rw [xs_len]; decide) hkn (tOf 5 ((i : Nat) : Int) 0) (Lib.hid (gM _ q hq3.out _ _)) tt).mono ?_
            rintro e wz ⟨rfl, hj, hob, hk2⟩
            replace h := hj
            replace hnap := (hk2.block hnap hAg.out hAC.out)
            replace hwake := hob
            replace r0 := hk2.cell r0 hR.out hRC.out
            replace r1 := hk2.cell r1 hR.out hRC.out
            replace r2 := hk2.cell r2 hR.out hRC.out
            replace r3 := hk2.cell r3 hR.out hRC.out
            replace r4 := hk2.cell r4 hR.out hRC.out
            replace r5 := hk2.cell r5 hR.out hRC.out
            clear hj hob hk2
            go_wp2_with fail
            go_roundw
            case rel => exact ⟨true, true, false, true, 0, 1, 2, false, false, true, 2, 1, k + 1, rfl, rfl, rfl, rfl, rfl, by go_num, by omega, by decide, by have := HA.out.1; omega, by have := HA.out.2; omega, h, hnap, hwake, r0, r1, r2, r3, r4, r5⟩
            case measure => simp [intOf]; omega
          · go_wp2_with fail
            go_roundw
            case rel => exact ⟨true, true, true, true, 0, 0, 3, false, false, false, 3, 0, k + 1, rfl, rfl, rfl, rfl, rfl, by go_num, by omega, by decide, by have := HA.out.1; omega, by have := HA.out.2; omega, h, hnap, hwake, r0, r1, r2, r3, r4, r5⟩
            case measure => simp [intOf]; omega
          · go_wp2_with fail
            go_roundw
            case rel => exact ⟨true, false, true, true, 1, 0, 3, false, false, false, 0, 0, k + 1, rfl, rfl, rfl, rfl, rfl, by go_num, by omega, by decide, by have := HA.out.1; omega, by have := HA.out.2; omega, h, hnap, hwake, r0, r1, r2, r3, r4, r5⟩
            case measure => simp [intOf]; omega
          · go_wp2_with fail
            refine (wake_looks_yes S g C 21 _ 2 5 i 20 q false w _ h hwake hCg hCS hC0 (by decide) (by decide) hF (by omega) hq (by rw [xs_len]; have := hq3.out; omega) (by rw [xs_len]; decide) hkn (tOf 5 ((i : Nat) : Int) 0) (Lib.hid (gM _ q hq3.out _ _)) tt).mono ?_
            rintro e wz ⟨rfl, hj, hob, hk2⟩
            replace h := hj
            replace hnap := (hk2.block hnap hAg.out hAC.out)
            replace hwake := hob
            replace r0 := hk2.cell r0 hR.out hRC.out
            replace r1 := hk2.cell r1 hR.out hRC.out
            replace r2 := hk2.cell r2 hR.out hRC.out
            replace r3 := hk2.cell r3 hR.out hRC.out
            replace r4 := hk2.cell r4 hR.out hRC.out
            replace r5 := hk2.cell r5 hR.out hRC.out
            clear hj hob hk2
            go_wp2_with fail
            go_roundw
            case rel => exact ⟨true, false, false, true, 0, 3, 2, false, false, true, 0, 1, k + 1, rfl, rfl, rfl, rfl, rfl, by go_num, by omega, by decide, by have := HA.out.1; omega, by have := HA.out.2; omega, h, hnap, hwake, r0, r1, r2, r3, r4, r5⟩
            case measure => simp [intOf]; omega
          · go_wp2_with fail
            refine (wake_looks_yes S g C 21 _ 2 5 i 20 q false w _ h hwake hCg hCS hC0 (by decide) (by decide) hF (by omega) hq (by rw [xs_len]; have := hq3.out; omega) (by rw [xs_len]; decide) hkn (tOf 5 ((i : Nat) : Int) 0) (Lib.hid (gM _ q hq3.out _ _)) tt).mono ?_
            rintro e wz ⟨rfl, hj, hob, hk2⟩
            replace h := hj
            replace hnap := (hk2.block hnap hAg.out hAC.out)
            replace hwake := hob
            replace r0 := hk2.cell r0 hR.out hRC.out
            replace r1 := hk2.cell r1 hR.out hRC.out
            replace r2 := hk2.cell r2 hR.out hRC.out
            replace r3 := hk2.cell r3 hR.out hRC.out
            replace r4 := hk2.cell r4 hR.out hRC.out
            replace r5 := hk2.cell r5 hR.out hRC.out
            clear hj hob hk2
            go_wp2_with fail
            go_roundw
            case rel => exact ⟨true, true, false, true, 0, 2, 2, false, false, true, 1, 1, k + 1, rfl, rfl, rfl, rfl, rfl, by go_num, by omega, by decide, by have := HA.out.1; omega, by have := HA.out.2; omega, h, hnap, hwake, r0, r1, r2, r3, r4, r5⟩
            case measure => simp [intOf]; omega
          · go_wp2_with fail
            refine (wake_rouses_yes S g C 21 _ 2 5 i 20 q false w _ h hwake hCg hCS hC0 (by decide) (by decide) hF (by omega) hq (by rw [xs_len]; have := hq3.out; omega) (by rw [xs_len]; decide) hkn (Lib.hid (gM _ q hq3.out _ _))).mono ?_
            rintro e wz ⟨rfl, hj, hob, hk2⟩
            rw [sM0 _ q hq3.out] at hj
            replace h := hj
            replace hnap := (hk2.block hnap hAg.out hAC.out)
            replace hwake := hob
            replace r0 := hk2.cell r0 hR.out hRC.out
            replace r1 := hk2.cell r1 hR.out hRC.out
            replace r2 := hk2.cell r2 hR.out hRC.out
            replace r3 := hk2.cell r3 hR.out hRC.out
            replace r4 := hk2.cell r4 hR.out hRC.out
            replace r5 := hk2.cell r5 hR.out hRC.out
            clear hj hob hk2
            go_wp2_with (first | (go_at_call 26; refine (wake_got C 2 5 i 3 true _ hwake).mono ?_; rintro e wy ⟨rfl, rfl⟩))
            go_roundw
            case rel => exact ⟨true, true, true, true, 1, 1, 3, false, true, false, 2, 0, k + 1, rfl, rfl, rfl, rfl, rfl, by go_num, by omega, by decide, by have := HA.out.1; omega, by have := HA.out.2; omega, h, hnap, hwake, r0, r1, r2, r3, r4, r5⟩
            case measure => simp [intOf]; omega
          · go_wp2_with fail
            go_roundw
            case rel => exact ⟨true, true, true, true, 0, 1, 3, false, false, true, 2, 0, k + 1, rfl, rfl, rfl, rfl, rfl, by go_num, by omega, by decide, by have := HA.out.1; omega, by have := HA.out.2; omega, h, hnap, hwake, r0, r1, r2, r3, r4, r5⟩
            case measure => simp [intOf]; omega
          · go_wp2_with fail
            refine (wake_rouses_yes S g C 21 _ 2 5 i 20 q false w _ h hwake hCg hCS hC0 (by decide) (by decide) hF (by omega) hq (by rw [xs_len]; have := hq3.out; omega) (by rw [xs_len]; decide) hkn (Lib.hid (gM _ q hq3.out _ _))).mono ?_
            rintro e wz ⟨rfl, hj, hob, hk2⟩
            rw [sM0 _ q hq3.out] at hj
            replace h := hj
            replace hnap := (hk2.block hnap hAg.out hAC.out)
            replace hwake := hob
            replace r0 := hk2.cell r0 hR.out hRC.out
            replace r1 := hk2.cell r1 hR.out hRC.out
            replace r2 := hk2.cell r2 hR.out hRC.out
            replace r3 := hk2.cell r3 hR.out hRC.out
            replace r4 := hk2.cell r4 hR.out hRC.out
            replace r5 := hk2.cell r5 hR.out hRC.out
            clear hj hob hk2
            go_wp2_with (first | (go_at_call 26; refine (wake_got C 2 5 i 3 true _ hwake).mono ?_; rintro e wy ⟨rfl, rfl⟩))
            go_roundw
            case rel => exact ⟨true, false, true, true, 1, 3, 3, false, true, false, 0, 0, k + 1, rfl, rfl, rfl, rfl, rfl, by go_num, by omega, by decide, by have := HA.out.1; omega, by have := HA.out.2; omega, h, hnap, hwake, r0, r1, r2, r3, r4, r5⟩
            case measure => simp [intOf]; omega
          · go_wp2_with fail
            refine (wake_looks_no S g C 21 _ 2 5 i 20 q false w _ h hwake hCg hCS hC0 (by decide) (by decide) hF (by omega) hq (by rw [xs_len]; have := hq3.out; omega) (by rw [xs_len]; decide) hkn 0 (Lib.hid (gM _ q hq3.out _ _)) t0).mono ?_
            rintro e wz ⟨rfl, hj, hob, hk2⟩
            replace h := hj
            replace hnap := (hk2.block hnap hAg.out hAC.out)
            replace hwake := hob
            replace r0 := hk2.cell r0 hR.out hRC.out
            replace r1 := hk2.cell r1 hR.out hRC.out
            replace r2 := hk2.cell r2 hR.out hRC.out
            replace r3 := hk2.cell r3 hR.out hRC.out
            replace r4 := hk2.cell r4 hR.out hRC.out
            replace r5 := hk2.cell r5 hR.out hRC.out
            clear hj hob hk2
            go_wp2_with (first | (go_at_call 26; refine (wake_got C 2 5 i 3 false _ hwake).mono ?_; rintro e wy ⟨rfl, rfl⟩))
            go_roundw
            case rel => exact ⟨true, false, true, true, 1, 3, 3, true, false, false, 0, 0, k + 1, rfl, rfl, rfl, rfl, rfl, by go_num, by omega, by decide, by have := HA.out.1; omega, by have := HA.out.2; omega, h, hnap, hwake, r0, r1, r2, r3, r4, r5⟩
            case measure => simp [intOf]; omega
          · go_wp2_with fail
            refine (wake_rouses_yes S g C 21 _ 2 5 i 20 q false w _ h hwake hCg hCS hC0 (by decide) (by decide) hF (by omega) hq (by rw [xs_len]; have := hq3.out; omega) (by rw [xs_len]; decide) hkn (Lib.hid (gM _ q hq3.out _ _))).mono ?_
            rintro e wz ⟨rfl, hj, hob, hk2⟩
            rw [sM0 _ q hq3.out] at hj
            replace h := hj
            replace hnap := (hk2.block hnap hAg.out hAC.out)
            replace hwake := hob
            replace r0 := hk2.cell r0 hR.out hRC.out
            replace r1 := hk2.cell r1 hR.out hRC.out
            replace r2 := hk2.cell r2 hR.out hRC.out
            replace r3 := hk2.cell r3 hR.out hRC.out
            replace r4 := hk2.cell r4 hR.out hRC.out
            replace r5 := hk2.cell r5 hR.out hRC.out
            clear hj hob hk2
            go_wp2_with (first | (go_at_call 26; refine (wake_got C 2 5 i 3 true _ hwake).mono ?_; rintro e wy ⟨rfl, rfl⟩))
            go_roundw
            case rel => exact ⟨true, true, true, true, 1, 2, 3, false, true, false, 1, 0, k + 1, rfl, rfl, rfl, rfl, rfl, by go_num, by omega, by decide, by have := HA.out.1; omega, by have := HA.out.2; omega, h, hnap, hwake, r0, r1, r2, r3, r4, r5⟩
            case measure => simp [intOf]; omega
          · go_wp2_with fail
            go_roundw
            case rel => exact ⟨true, true, true, true, 1, 1, 3, false, true, false, 2, 0, k + 1, rfl, rfl, rfl, rfl, rfl, by go_num, by omega, by decide, by have := HA.out.1; omega, by have := HA.out.2; omega, h, hnap, hwake, r0, r1, r2, r3, r4, r5⟩
            case measure => simp [intOf]; omega
          · go_wp2_with fail
            go_roundw
            case rel => exact ⟨true, true, true, true, 0, 2, 3, false, false, true, 1, 0, k + 1, rfl, rfl, rfl, rfl, rfl, by go_num, by omega, by decide, by have := HA.out.1; omega, by have := HA.out.2; omega, h, hnap, hwake, r0, r1, r2, r3, r4, r5⟩
            case measure => simp [intOf]; omega
          · go_wp2_with fail
            go_roundw
            case rel => exact ⟨true, false, true, true, 1, 3, 3, false, true, false, 0, 0, k + 1, rfl, rfl, rfl, rfl, rfl, by go_num, by omega, by decide, by have := HA.out.1; omega, by have := HA.out.2; omega, h, hnap, hwake, r0, r1, r2, r3, r4, r5⟩
            case measure => simp [intOf]; omega
          · go_wp2_with fail
            go_roundw
            case rel => exact ⟨true, false, true, true, 1, 3, 3, true, false, false, 0, 0, k + 1, rfl, rfl, rfl, rfl, rfl, by go_num, by omega, by decide, by have := HA.out.1; omega, by have := HA.out.2; omega, h, hnap, hwake, r0, r1, r2, r3, r4, r5⟩
            case measure => simp [intOf]; omega
          · go_wp2_with fail
            refine (wake_rouses_no S g C 21 _ 2 5 i 20 q false w _ h hwake hCg hCS hC0 (by decide) (by decide) hF (by omega) hq (by rw [xs_len]; have := hq3.out; omega) (by rw [xs_len]; decide) hkn 0 (Lib.hid (gM _ q hq3.out _ _)) n0).mono ?_
            rintro e wz ⟨rfl, hj, hob, hk2⟩
            replace h := hj
            replace hnap := (hk2.block hnap hAg.out hAC.out)
            replace hwake := hob
            replace r0 := hk2.cell r0 hR.out hRC.out
            replace r1 := hk2.cell r1 hR.out hRC.out
            replace r2 := hk2.cell r2 hR.out hRC.out
            replace r3 := hk2.cell r3 hR.out hRC.out
            replace r4 := hk2.cell r4 hR.out hRC.out
            replace r5 := hk2.cell r5 hR.out hRC.out
            clear hj hob hk2
            go_wp2_with (first | (go_at_call 26; refine (wake_got C 2 5 i 3 false _ hwake).mono ?_; rintro e wy ⟨rfl, rfl⟩))
            go_roundw
            case rel => exact ⟨true, false, true, true, 1, 3, 3, true, false, false, 0, 0, k + 1, rfl, rfl, rfl, rfl, rfl, by go_num, by omega, by decide, by have := HA.out.1; omega, by have := HA.out.2; omega, h, hnap, hwake, r0, r1, r2, r3, r4, r5⟩
            case measure => simp [intOf]; omega
          · go_wp2_with fail
            go_roundw
            case rel => exact ⟨true, true, true, true, 1, 2, 3, false, true, false, 1, 0, k + 1, rfl, rfl, rfl, rfl, rfl, by go_num, by omega, by decide, by have := HA.out.1; omega, by have := HA.out.2; omega, h, hnap, hwake, r0, r1, r2, r3, r4, r5⟩
            case measure => simp [intOf]; omega
        · simp only [okL, List.mem_cons, Prod.mk.injEq, List.not_mem_nil, or_false] at hok
          rcases hok with ⟨rfl, rfl, rfl, rfl, rfl, rfl, rfl, rfl, rfl, rfl, rfl, rfl⟩ | ⟨rfl, rfl, rfl, rfl, rfl, rfl, rfl, rfl, rfl, rfl, rfl, rfl⟩ | ⟨rfl, rfl, rfl, rfl, rfl, rfl, rfl, rfl, rfl, rfl, rfl, rfl⟩ | ⟨rfl, rfl, rfl, rfl, rfl, rfl, rfl, rfl, rfl, rfl, rfl, rfl⟩ | ⟨rfl, rfl, rfl, rfl, rfl, rfl, rfl, rfl, rfl, rfl, rfl, rfl⟩ | ⟨rfl, rfl, rfl, rfl, rfl, rfl, rfl, rfl, rfl, rfl, rfl, rfl⟩ | ⟨rfl, rfl, rfl, rfl, rfl, rfl, rfl, rfl, rfl, rfl, rfl, rfl⟩ | ⟨rfl, rfl, rfl, rfl, rfl, rfl, rfl, rfl, rfl, rfl, rfl, rfl⟩ | ⟨rfl, rfl, rfl, rfl, rfl, rfl, rfl, rfl, rfl, rfl, rfl, rfl⟩ | ⟨rfl, rfl, rfl, rfl, rfl, rfl, rfl, rfl, rfl, rfl, rfl, rfl⟩ | ⟨rfl, rfl, rfl, rfl, rfl, rfl, rfl, rfl, rfl, rfl, rfl, rfl⟩ | ⟨rfl, rfl, rfl, rfl, rfl, rfl, rfl, rfl, rfl, rfl, rfl, rfl⟩ | ⟨rfl, rfl, rfl, rfl, rfl, rfl, rfl, rfl, rfl, rfl, rfl, rfl⟩ | ⟨rfl, rfl, rfl, rfl, rfl, rfl, rfl, rfl, rfl, rfl, rfl, rfl⟩ | ⟨rfl, rfl, rfl, rfl, rfl, rfl, rfl, rfl, rfl, rfl, rfl, rfl⟩ | ⟨rfl, rfl, rfl, rfl, rfl, rfl, rfl, rfl, rfl, rfl, rfl, rfl⟩ | ⟨rfl, rfl, rfl, rfl, rfl, rfl, rfl, rfl, rfl, rfl, rfl, rfl⟩ | ⟨rfl, rfl, rfl, rfl, rfl, rfl, rfl, rfl, rfl, rfl, rfl, rfl⟩ | ⟨rfl, rfl, rfl, rfl, rfl, rfl, rfl, rfl, rfl, rfl, rfl, rfl⟩ | ⟨rfl, rfl, rfl, rfl, rfl, rfl, rfl, rfl, rfl, rfl, rfl, rfl⟩ | ⟨rfl, rfl, rfl, rfl, rfl, rfl, rfl, rfl, rfl, rfl, rfl, rfl⟩ | ⟨rfl, rfl, rfl, rfl, rfl, rfl, rfl, rfl, rfl, rfl, rfl, rfl⟩ | ⟨rfl, rfl, rfl, rfl, rfl, rfl, rfl, rfl, rfl, rfl, rfl, rfl⟩ | ⟨rfl, rfl, rfl, rfl, rfl, rfl, rfl, rfl, rfl, rfl, rfl, rfl⟩
          · go_wp2_with fail
            refine (rended_j S g (25 + 4 * q) _ 2 5 i 20 q 0 false w _ h (by decide) (by decide) hF (by omega) hq hkd (Lib.hid (gD _ q hq3.out _ _)) t0 (by rw [xs_len]; have := hq3.out; omega) (by rw [xs_len]; decide)).mono ?_
            rintro e wz ⟨rfl, hj, hk2⟩
            replace h := hj
            replace hnap := (hk2.block hnap hAg.out)
            replace hwake := (hk2.block hwake hCg.out)
            replace r0 := hk2.cell r0 hR.out
            replace r1 := hk2.cell r1 hR.out
            replace r2 := hk2.cell r2 hR.out
            replace r3 := hk2.cell r3 hR.out
            replace r4 := hk2.cell r4 hR.out
            replace r5 := hk2.cell r5 hR.out
            clear hj hk2
            go_wp2_with fail
            go_roundw
            case rel => exact ⟨true, true, false, false, 0, 0, 0, false, false, false, 3, 3, k + 1, rfl, rfl, rfl, rfl, rfl, by go_num, by omega, by decide, by have := HA.out.1; omega, by have := HA.out.2; omega, h, hnap, hwake, r0, r1, r2, r3, r4, r5⟩
            case measure => simp [intOf]; omega
          · go_wp2_with fail
            refine (nap_tells S g A 21 _ 2 5 i 20 q false w _ h hnap hAg hAS hA0 (by decide) (by decide) hF (by omega) hq (by rw [xs_len]; have := hq3.out; omega) (by rw [xs_len]; decide) hkn).mono ?_
            rintro e wz ⟨rfl, hj, hob, hk2⟩
            rw [sM _ q hq3.out] at hj
            replace h := hj
            replace hwake := (hk2.block hwake hCg.out (fun e => hAC.out e.symm))
            replace hnap := hob
            replace r0 := hk2.cell r0 hR.out hRA.out
            replace r1 := hk2.cell r1 hR.out hRA.out
            replace r2 := hk2.cell r2 hR.out hRA.out
            replace r3 := hk2.cell r3 hR.out hRA.out
            replace r4 := hk2.cell r4 hR.out hRA.out
            replace r5 := hk2.cell r5 hR.out hRA.out
            clear hj hob hk2
            go_wp2_with fail
            go_roundw
            case rel => exact ⟨true, true, false, false, 0, 1, 0, false, false, true, 2, 3, k + 1, rfl, rfl, rfl, rfl, rfl, by go_num, by omega, by decide, by have := HA.out.1; omega, by have := HA.out.2; omega, h, hnap, hwake, r0, r1, r2, r3, r4, r5⟩
            case measure => simp [intOf]; omega
          · go_wp2_with fail
            refine (rended_j S g (25 + 4 * q) _ 2 5 i 20 q (tOf 5 ((i : Nat) : Int) 0) true w _ h (by decide) (by decide) hF (by omega) hq hkd (Lib.hid (gD _ q hq3.out _ _)) tt (by rw [xs_len]; have := hq3.out; omega) (by rw [xs_len]; decide)).mono ?_
            rintro e wz ⟨rfl, hj, hk2⟩
            replace h := hj
            replace hnap := (hk2.block hnap hAg.out)
            replace hwake := (hk2.block hwake hCg.out)
            replace r0 := hk2.cell r0 hR.out
            replace r1 := hk2.cell r1 hR.out
            replace r2 := hk2.cell r2 hR.out
            replace r3 := hk2.cell r3 hR.out
            replace r4 := hk2.cell r4 hR.out
            replace r5 := hk2.cell r5 hR.out
            clear hj hk2
            go_wp2_with fail
            go_roundw
            case rel => exact ⟨true, false, false, true, 1, 0, 1, false, false, false, 0, 2, k + 1, rfl, rfl, rfl, rfl, rfl, by go_num, by omega, by decide, by have := HA.out.1; omega, by have := HA.out.2; omega, h, hnap, hwake, r0, r1, r2, r3, r4, r5⟩
            case measure => simp [intOf]; omega
          · go_wp2_with fail
            refine (nap_looks_no S g A (25 + 4 * q) _ 2 5 i 20 q false w _ h hnap hAg hAS hA0 (by decide) (by decide) hF (by omega) hq (by rw [xs_len]; have := hq3.out; omega) (by rw [xs_len]; decide) hkd 0 (Lib.hid (gD _ q hq3.out _ _)) t0).mono ?_
            rintro e wz ⟨rfl, hj, hob, hk2⟩
            replace h := hj
            replace hwake := (hk2.block hwake hCg.out (fun e => hAC.out e.symm))
            replace hnap := hob
            replace r0 := hk2.cell r0 hR.out hRA.out
            replace r1 := hk2.cell r1 hR.out hRA.out
            replace r2 := hk2.cell r2 hR.out hRA.out
            replace r3 := hk2.cell r3 hR.out hRA.out
            replace r4 := hk2.cell r4 hR.out hRA.out
            replace r5 := hk2.cell r5 hR.out hRA.out
            clear hj hob hk2
            go_wp2_with (first | (go_at_call 24; refine (nap_back A 2 5 i 3 false _ hnap).mono ?_; rintro e wy ⟨rfl, rfl⟩))
            go_roundw
            case rel => exact ⟨true, false, false, false, 0, 3, 0, false, false, true, 0, 3, k + 1, rfl, rfl, rfl, rfl, rfl, by go_num, by omega, by decide, by have := HA.out.1; omega, by have := HA.out.2; omega, h, hnap, hwake, r0, r1, r2, r3, r4, r5⟩
            case measure => simp [intOf]; omega
          · go_wp2_with fail
            refine (nap_tells S g A 21 _ 2 5 i 20 q false w _ h hnap hAg hAS hA0 (by decide) (by decide) hF (by omega) hq (by rw [xs_len]; have := hq3.out; omega) (by rw [xs_len]; decide) hkn).mono ?_
            rintro e wz ⟨rfl, hj, hob, hk2⟩
            rw [sM _ q hq3.out] at hj
            replace h := hj
            replace hwake := (hk2.block hwake hCg.out (fun e => hAC.out e.symm))
            replace hnap := hob
            replace r0 := hk2.cell r0 hR.out hRA.out
            replace r1 := hk2.cell r1 hR.out hRA.out
            replace r2 := hk2.cell r2 hR.out hRA.out
            replace r3 := hk2.cell r3 hR.out hRA.out
            replace r4 := hk2.cell r4 hR.out hRA.out
            replace r5 := hk2.cell r5 hR.out hRA.out
            clear hj hob hk2
            go_wp2_with fail
            go_roundw
            case rel => exact ⟨true, true, false, true, 0, 1, 1, false, false, true, 2, 2, k + 1, rfl, rfl, rfl, rfl, rfl, by go_num, by omega, by decide, by have := HA.out.1; omega, by have := HA.out.2; omega, h, hnap, hwake, r0, r1, r2, r3, r4, r5⟩
            case measure => simp [intOf]; omega
          · go_wp2_with fail
            go_roundw
            case rel => exact ⟨true, false, false, true, 1, 0, 1, false, false, false, 0, 2, k + 1, rfl, rfl, rfl, rfl, rfl, by go_num, by omega, by decide, by have := HA.out.1; omega, by have := HA.out.2; omega, h, hnap, hwake, r0, r1, r2, r3, r4, r5⟩
            case measure => simp [intOf]; omega
          · go_wp2_with fail
            refine (rended_j S g (25 + 4 * q) _ 2 5 i 20 q (tOf 5 ((i : Nat) : Int) 0) true w _ h (by decide) (by decide) hF (by omega) hq hkd (Lib.hid (gD _ q hq3.out _ _)) tt (by rw [xs_len]; have := hq3.out; omega) (by rw [xs_len]; decide)).mono ?_
            rintro e wz ⟨rfl, hj, hk2⟩
            replace h := hj
            replace hnap := (hk2.block hnap hAg.out)
            replace hwake := (hk2.block hwake hCg.out)
            replace r0 := hk2.cell r0 hR.out
            replace r1 := hk2.cell r1 hR.out
            replace r2 := hk2.cell r2 hR.out
            replace r3 := hk2.cell r3 hR.out
            replace r4 := hk2.cell r4 hR.out
            replace r5 := hk2.cell r5 hR.out
            clear hj hk2
            go_wp2_with fail
            go_roundw
            case rel => exact ⟨true, false, true, true, 1, 0, 3, false, false, false, 0, 0, k + 1, rfl, rfl, rfl, rfl, rfl, by go_num, by omega, by decide, by have := HA.out.1; omega, by have := HA.out.2; omega, h, hnap, hwake, r0, r1, r2, r3, r4, r5⟩
            case measure => simp [intOf]; omega
          · go_wp2_with fail
            go_roundw
            case rel => exact ⟨true, false, false, false, 0, 3, 0, false, false, true, 0, 3, k + 1, rfl, rfl, rfl, rfl, rfl, by go_num, by omega, by decide, by have := HA.out.1; omega, by have := HA.out.2; omega, h, hnap, hwake, r0, r1, r2, r3, r4, r5⟩
            case measure => simp [intOf]; omega
          · go_wp2_with fail
            refine (nap_looks_yes S g A (25 + 4 * q) _ 2 5 i 20 q false w _ h hnap hAg hAS hA0 (by decide) (by decide) hF (by omega) hq (by rw [xs_len]; have := hq3.out; omega) (by rw [xs_len]; decide) hkd (tOf 5 ((i : Nat) : Int) 0) (Lib.hid (gD _ q hq3.out _ _)) tt).mono ?_
            rintro e wz ⟨rfl, hj, hob, hk2⟩
            replace h := hj
            replace hwake := (hk2.block hwake hCg.out (fun e => hAC.out e.symm))
            replace hnap := hob
            replace r0 := hk2.cell r0 hR.out hRA.out
            replace r1 := hk2.cell r1 hR.out hRA.out
            replace r2 := hk2.cell r2 hR.out hRA.out
            replace r3 := hk2.cell r3 hR.out hRA.out
            replace r4 := hk2.cell r4 hR.out hRA.out
            replace r5 := hk2.cell r5 hR.out hRA.out
            clear hj hob hk2
            go_wp2_with fail
            go_roundw
            case rel => exact ⟨true, true, false, true, 0, 2, 1, false, false, true, 1, 2, k + 1, rfl, rfl, rfl, rfl, rfl, by go_num, by omega, by decide, by have := HA.out.1; omega, by have := HA.out.2; omega, h, hnap, hwake, r0, r1, r2, r3, r4, r5⟩
            case measure => simp [intOf]; omega
          · go_wp2_with fail
            refine (nap_tells S g A 21 _ 2 5 i 20 q false w _ h hnap hAg hAS hA0 (by decide) (by decide) hF (by omega) hq (by rw [xs_len]; have := hq3.out; omega) (by rw [xs_len]; decide) hkn).mono ?_
            rintro e wz ⟨rfl, hj, hob, hk2⟩
            rw [sM _ q hq3.out] at hj
            replace h := hj
            replace hwake := (hk2.block hwake hCg.out (fun e => hAC.out e.symm))
            replace hnap := hob
            replace r0 := hk2.cell r0 hR.out hRA.out
            replace r1 := hk2.cell r1 hR.out hRA.out
            replace r2 := hk2.cell r2 hR.out hRA.out
            replace r3 := hk2.cell r3 hR.out hRA.out
            replace r4 := hk2.cell r4 hR.out hRA.out
            replace r5 := hk2.cell r5 hR.out hRA.out
            clear hj hob hk2
            go_wp2_with fail
            go_roundw
            case rel => exact ⟨true, true, true, true, 0, 1, 3, false, false, true, 2, 0, k + 1, rfl, rfl, rfl, rfl, rfl, by go_num, by omega, by decide, by have := HA.out.1; omega, by have := HA.out.2; omega, h, hnap, hwake, r0, r1, r2, r3, r4, r5⟩
            case measure => simp [intOf]; omega
          · go_wp2_with fail
            go_roundw
            case rel => exact ⟨true, false, true, true, 1, 0, 3, false, false, false, 0, 0, k + 1, rfl, rfl, rfl, rfl, rfl, by go_num, by omega, by decide, by have := HA.out.1; omega, by have := HA.out.2; omega, h, hnap, hwake, r0, r1, r2, r3, r4, r5⟩
            case measure => simp [intOf]; omega
          · go_wp2_with fail
            go_roundw
            case rel => exact ⟨true, false, false, true, 0, 3, 1, false, false, true, 0, 2, k + 1, rfl, rfl, rfl, rfl, rfl, by go_num, by omega, by decide, by have := HA.out.1; omega, by have := HA.out.2; omega, h, hnap, hwake, r0, r1, r2, r3, r4, r5⟩
            case measure => simp [intOf]; omega
          · go_wp2_with fail
            refine (nap_rouses_yes S g A 21 _ 2 5 i 20 q false w _ h hnap hAg hAS hA0 (by decide) (by decide) hF (by omega) hq (by rw [xs_len]; have := hq3.out; omega) (by rw [xs_len]; decide) hkn (Lib.hid (gM _ q hq3.out _ _))).mono ?_
            rintro e wz ⟨rfl, hj, hob, hk2⟩
            rw [sM0 _ q hq3.out] at hj
            replace h := hj
            replace hwake := (hk2.block hwake hCg.out (fun e => hAC.out e.symm))
            replace hnap := hob
            replace r0 := hk2.cell r0 hR.out hRA.out
            replace r1 := hk2.cell r1 hR.out hRA.out
            replace r2 := hk2.cell r2 hR.out hRA.out
            replace r3 := hk2.cell r3 hR.out hRA.out
            replace r4 := hk2.cell r4 hR.out hRA.out
            replace r5 := hk2.cell r5 hR.out hRA.out
            clear hj hob hk2
            go_wp2_with (first | (go_at_call 24; refine (nap_back A 2 5 i 3 true _ hnap).mono ?_; rintro e wy ⟨rfl, rfl⟩))
            go_roundw
            case rel => exact ⟨true, false, false, true, 1, 3, 1, true, false, false, 0, 2, k + 1, rfl, rfl, rfl, rfl, rfl, by go_num, by omega, by decide, by have := HA.out.1; omega, by have := HA.out.2; omega, h, hnap, hwake, r0, r1, r2, r3, r4, r5⟩
            case measure => simp [intOf]; omega
          · go_wp2_with fail
            refine (nap_looks_yes S g A (25 + 4 * q) _ 2 5 i 20 q false w _ h hnap hAg hAS hA0 (by decide) (by decide) hF (by omega) hq (by rw [xs_len]; have := hq3.out; omega) (by rw [xs_len]; decide) hkd (tOf 5 ((i : Nat) : Int) 0) (Lib.hid (gD _ q hq3.out _ _)) tt).mono ?_
            rintro e wz ⟨rfl, hj, hob, hk2⟩
            replace h := hj
            replace hwake := (hk2.block hwake hCg.out (fun e => hAC.out e.symm))
            replace hnap := hob
            replace r0 := hk2.cell r0 hR.out hRA.out
            replace r1 := hk2.cell r1 hR.out hRA.out
            replace r2 := hk2.cell r2 hR.out hRA.out
            replace r3 := hk2.cell r3 hR.out hRA.out
            replace r4 := hk2.cell r4 hR.out hRA.out
            replace r5 := hk2.cell r5 hR.out hRA.out
            clear hj hob hk2
            go_wp2_with fail
            go_roundw
            case rel => exact ⟨true, true, false, true, 0, 2, 2, false, false, true, 1, 1, k + 1, rfl, rfl, rfl, rfl, rfl, by go_num, by omega, by decide, by have := HA.out.1; omega, by have := HA.out.2; omega, h, hnap, hwake, r0, r1, r2, r3, r4, r5⟩
            case measure => simp [intOf]; omega
          · go_wp2_with fail
            refine (nap_looks_yes S g A (25 + 4 * q) _ 2 5 i 20 q false w _ h hnap hAg hAS hA0 (by decide) (by decide) hF (by omega) hq (by rw [xs_len]; have := hq3.out; omega) (by rw [xs_len]; decide) hkd (tOf 5 ((i : Nat) : Int) 0) (Lib.hid (gD _ q hq3.out _ _)) tt).mono ?_
            rintro e wz ⟨rfl, hj, hob, hk2⟩
            replace h := hj
            replace hwake := (hk2.block hwake hCg.out (fun e => hAC.out e.symm))
            replace hnap := hob
            replace r0 := hk2.cell r0 hR.out hRA.out
            replace r1 := hk2.cell r1 hR.out hRA.out
            replace r2 := hk2.cell r2 hR.out hRA.out
            replace r3 := hk2.cell r3 hR.out hRA.out
            replace r4 := hk2.cell r4 hR.out hRA.out
            replace r5 := hk2.cell r5 hR.out hRA.out
            clear hj hob hk2
            go_wp2_with fail
            go_roundw
            case rel => exact ⟨true, true, true, true, 0, 2, 3, false, false, true, 1, 0, k + 1, rfl, rfl, rfl, rfl, rfl, by go_num, by omega, by decide, by have := HA.out.1; omega, by have := HA.out.2; omega, h, hnap, hwake, r0, r1, r2, r3, r4, r5⟩
            case measure => simp [intOf]; omega
          · go_wp2_with fail
            go_roundw
            case rel => exact ⟨true, false, false, true, 0, 3, 2, false, false, true, 0, 1, k + 1, rfl, rfl, rfl, rfl, rfl, by go_num, by omega, by decide, by have := HA.out.1; omega, by have := HA.out.2; omega, h, hnap, hwake, r0, r1, r2, r3, r4, r5⟩
            case measure => simp [intOf]; omega
          · go_wp2_with fail
            go_roundw
            case rel => exact ⟨true, false, false, true, 1, 3, 1, true, false, false, 0, 2, k + 1, rfl, rfl, rfl, rfl, rfl, by go_num, by omega, by decide, by have := HA.out.1; omega, by have := HA.out.2; omega, h, hnap, hwake, r0, r1, r2, r3, r4, r5⟩
            case measure => simp [intOf]; omega
          · go_wp2_with fail
            refine (nap_rouses_yes S g A 21 _ 2 5 i 20 q false w _ h hnap hAg hAS hA0 (by decide) (by decide) hF (by omega) hq (by rw [xs_len]; have := hq3.out; omega) (by rw [xs_len]; decide) hkn (Lib.hid (gM _ q hq3.out _ _))).mono ?_
            rintro e wz ⟨rfl, hj, hob, hk2⟩
            rw [sM0 _ q hq3.out] at hj
            replace h := hj
            replace hwake := (hk2.block hwake hCg.out (fun e => hAC.out e.symm))
            replace hnap := hob
            replace r0 := hk2.cell r0 hR.out hRA.out
            replace r1 := hk2.cell r1 hR.out hRA.out
            replace r2 := hk2.cell r2 hR.out hRA.out
            replace r3 := hk2.cell r3 hR.out hRA.out
            replace r4 := hk2.cell r4 hR.out hRA.out
            replace r5 := hk2.cell r5 hR.out hRA.out
            clear hj hob hk2
            go_wp2_with (first | (go_at_call 24; refine (nap_back A 2 5 i 3 true _ hnap).mono ?_; rintro e wy ⟨rfl, rfl⟩))
            go_roundw
            case rel => exact ⟨true, false, false, true, 1, 3, 2, true, false, false, 0, 1, k + 1, rfl, rfl, rfl, rfl, rfl, by go_num, by omega, by decide, by have := HA.out.1; omega, by have := HA.out.2; omega, h, hnap, hwake, r0, r1, r2, r3, r4, r5⟩
            case measure => simp [intOf]; omega
          · go_wp2_with fail
            refine (nap_looks_yes S g A (25 + 4 * q) _ 2 5 i 20 q false w _ h hnap hAg hAS hA0 (by decide) (by decide) hF (by omega) hq (by rw [xs_len]; have := hq3.out; omega) (by rw [xs_len]; decide) hkd (tOf 5 ((i : Nat) : Int) 0) (Lib.hid (gD _ q hq3.out _ _)) tt).mono ?_
            rintro e wz ⟨rfl, hj, hob, hk2⟩
            replace h := hj
            replace hwake := (hk2.block hwake hCg.out (fun e => hAC.out e.symm))
            replace hnap := hob
            replace r0 := hk2.cell r0 hR.out hRA.out
            replace r1 := hk2.cell r1 hR.out hRA.out
            replace r2 := hk2.cell r2 hR.out hRA.out
            replace r3 := hk2.cell r3 hR.out hRA.out
            replace r4 := hk2.cell r4 hR.out hRA.out
            replace r5 := hk2.cell r5 hR.out hRA.out
            clear hj hob hk2
            go_wp2_with fail
            go_roundw
            case rel => exact ⟨true, true, true, true, 1, 2, 3, false, true, false, 1, 0, k + 1, rfl, rfl, rfl, rfl, rfl, by go_num, by omega, by decide, by have := HA.out.1; omega, by have := HA.out.2; omega, h, hnap, hwake, r0, r1, r2, r3, r4, r5⟩
            case measure => simp [intOf]; omega
          · go_wp2_with fail
            refine (nap_rouses_yes S g A 21 _ 2 5 i 20 q false w _ h hnap hAg hAS hA0 (by decide) (by decide) hF (by omega) hq (by rw [xs_len]; have := hq3.out; omega) (by rw [xs_len]; decide) hkn (Lib.hid (gM _ q hq3.out _ _))).mono ?_
            rintro e wz ⟨rfl, hj, hob, hk2⟩
            rw [sM0 _ q hq3.out] at hj
            replace h := hj
            replace hwake := (hk2.block hwake hCg.out (fun e => hAC.out e.symm))
            replace hnap := hob
            replace r0 := hk2.cell r0 hR.out hRA.out
            replace r1 := hk2.cell r1 hR.out hRA.out
            replace r2 := hk2.cell r2 hR.out hRA.out
            replace r3 := hk2.cell r3 hR.out hRA.out
            replace r4 := hk2.cell r4 hR.out hRA.out
            replace r5 := hk2.cell r5 hR.out hRA.out
            clear hj hob hk2
            go_wp2_with (first | (go_at_call 24; refine (nap_back A 2 5 i 3 true _ hnap).mono ?_; rintro e wy ⟨rfl, rfl⟩))
            go_roundw
            case rel => exact ⟨true, false, true, true, 1, 3, 3, true, false, false, 0, 0, k + 1, rfl, rfl, rfl, rfl, rfl, by go_num, by omega, by decide, by have := HA.out.1; omega, by have := HA.out.2; omega, h, hnap, hwake, r0, r1, r2, r3, r4, r5⟩
            case measure => simp [intOf]; omega
          · go_wp2_with fail
            go_roundw
            case rel => exact ⟨true, false, true, true, 1, 3, 3, false, true, false, 0, 0, k + 1, rfl, rfl, rfl, rfl, rfl, by go_num, by omega, by decide, by have := HA.out.1; omega, by have := HA.out.2; omega, h, hnap, hwake, r0, r1, r2, r3, r4, r5⟩
            case measure => simp [intOf]; omega
          · go_wp2_with fail
            go_roundw
            case rel => exact ⟨true, false, true, true, 1, 3, 3, true, false, false, 0, 0, k + 1, rfl, rfl, rfl, rfl, rfl, by go_num, by omega, by decide, by have := HA.out.1; omega, by have := HA.out.2; omega, h, hnap, hwake, r0, r1, r2, r3, r4, r5⟩
            case measure => simp [intOf]; omega
          · go_wp2_with fail
            go_roundw
            case rel => exact ⟨true, false, false, true, 1, 3, 2, true, false, false, 0, 1, k + 1, rfl, rfl, rfl, rfl, rfl, by go_num, by omega, by decide, by have := HA.out.1; omega, by have := HA.out.2; omega, h, hnap, hwake, r0, r1, r2, r3, r4, r5⟩
            case measure => simp [intOf]; omega
          · go_wp2_with fail
            refine (nap_rouses_no S g A 21 _ 2 5 i 20 q false w _ h hnap hAg hAS hA0 (by decide) (by decide) hF (by omega) hq (by rw [xs_len]; have := hq3.out; omega) (by rw [xs_len]; decide) hkn 0 (Lib.hid (gM _ q hq3.out _ _)) n0).mono ?_
            rintro e wz ⟨rfl, hj, hob, hk2⟩
            replace h := hj
            replace hwake := (hk2.block hwake hCg.out (fun e => hAC.out e.symm))
            replace hnap := hob
            replace r0 := hk2.cell r0 hR.out hRA.out
            replace r1 := hk2.cell r1 hR.out hRA.out
            replace r2 := hk2.cell r2 hR.out hRA.out
            replace r3 := hk2.cell r3 hR.out hRA.out
            replace r4 := hk2.cell r4 hR.out hRA.out
            replace r5 := hk2.cell r5 hR.out hRA.out
            clear hj hob hk2
            go_wp2_with (first | (go_at_call 24; refine (nap_back A 2 5 i 3 false _ hnap).mono ?_; rintro e wy ⟨rfl, rfl⟩))
            go_roundw
            case rel => exact ⟨true, false, true, true, 1, 3, 3, false, true, false, 0, 0, k + 1, rfl, rfl, rfl, rfl, rfl, by go_num, by omega, by decide, by have := HA.out.1; omega, by have := HA.out.2; omega, h, hnap, hwake, r0, r1, r2, r3, r4, r5⟩
            case measure => simp [intOf]; omega
      · have hkl' : ¬ (k : Int) < (len : Int) := by omega
        by_cases hpar : k % 2 = 0
        · have hp : ((k : Nat) : Int).tmod 2 = 0 := by rw [Int.tmod_eq_emod_of_nonneg (by omega)]; omega
          simp only [okL, List.mem_cons, Prod.mk.injEq, List.not_mem_nil, or_false] at hok
          rcases hok with ⟨rfl, rfl, rfl, rfl, rfl, rfl, rfl, rfl, rfl, rfl, rfl, rfl⟩ | ⟨rfl, rfl, rfl, rfl, rfl, rfl, rfl, rfl, rfl, rfl, rfl, rfl⟩ | ⟨rfl, rfl, rfl, rfl, rfl, rfl, rfl, rfl, rfl, rfl, rfl, rfl⟩ | ⟨rfl, rfl, rfl, rfl, rfl, rfl, rfl, rfl, rfl, rfl, rfl, rfl⟩ | ⟨rfl, rfl, rfl, rfl, rfl, rfl, rfl, rfl, rfl, rfl, rfl, rfl⟩ | ⟨rfl, rfl, rfl, rfl, rfl, rfl, rfl, rfl, rfl, rfl, rfl, rfl⟩ | ⟨rfl, rfl, rfl, rfl, rfl, rfl, rfl, rfl, rfl, rfl, rfl, rfl⟩ | ⟨rfl, rfl, rfl, rfl, rfl, rfl, rfl, rfl, rfl, rfl, rfl, rfl⟩ | ⟨rfl, rfl, rfl, rfl, rfl, rfl, rfl, rfl, rfl, rfl, rfl, rfl⟩ | ⟨rfl, rfl, rfl, rfl, rfl, rfl, rfl, rfl, rfl, rfl, rfl, rfl⟩ | ⟨rfl, rfl, rfl, rfl, rfl, rfl, rfl, rfl, rfl, rfl, rfl, rfl⟩ | ⟨rfl, rfl, rfl, rfl, rfl, rfl, rfl, rfl, rfl, rfl, rfl, rfl⟩ | ⟨rfl, rfl, rfl, rfl, rfl, rfl, rfl, rfl, rfl, rfl, rfl, rfl⟩ | ⟨rfl, rfl, rfl, rfl, rfl, rfl, rfl, rfl, rfl, rfl, rfl, rfl⟩ | ⟨rfl, rfl, rfl, rfl, rfl, rfl, rfl, rfl, rfl, rfl, rfl, rfl⟩ | ⟨rfl, rfl, rfl, rfl, rfl, rfl, rfl, rfl, rfl, rfl, rfl, rfl⟩ | ⟨rfl, rfl, rfl, rfl, rfl, rfl, rfl, rfl, rfl, rfl, rfl, rfl⟩ | ⟨rfl, rfl, rfl, rfl, rfl, rfl, rfl, rfl, rfl, rfl, rfl, rfl⟩ | ⟨rfl, rfl, rfl, rfl, rfl, rfl, rfl, rfl, rfl, rfl, rfl, rfl⟩ | ⟨rfl, rfl, rfl, rfl, rfl, rfl, rfl, rfl, rfl, rfl, rfl, rfl⟩ | ⟨rfl, rfl, rfl, rfl, rfl, rfl, rfl, rfl, rfl, rfl, rfl, rfl⟩ | ⟨rfl, rfl, rfl, rfl, rfl, rfl, rfl, rfl, rfl, rfl, rfl, rfl⟩ | ⟨rfl, rfl, rfl, rfl, rfl, rfl, rfl, rfl, rfl, rfl, rfl, rfl⟩ | ⟨rfl, rfl, rfl, rfl, rfl, rfl, rfl, rfl, rfl, rfl, rfl, rfl⟩
          · go_wp2_with fail
            refine (rended_j S g (25 + 4 * q) _ 2 5 i 20 q 0 false w _ h (by decide) (by decide) hF (by omega) hq hkd (Lib.hid (gD _ q hq3.out _ _)) t0 (by rw [xs_len]; have := hq3.out; omega) (by rw [xs_len]; decide)).mono ?_
            rintro e wz ⟨rfl, hj, hk2⟩
            replace h := hj
            replace hnap := (hk2.block hnap hAg.out)
            replace hwake := (hk2.block hwake hCg.out)
            replace r0 := hk2.cell r0 hR.out
            replace r1 := hk2.cell r1 hR.out
            replace r2 := hk2.cell r2 hR.out
            replace r3 := hk2.cell r3 hR.out
            replace r4 := hk2.cell r4 hR.out
            replace r5 := hk2.cell r5 hR.out
            clear hj hk2
            go_wp2_with fail
            go_roundw
            case rel => exact ⟨true, true, false, false, 0, 0, 0, false, false, false, 3, 3, k + 1, rfl, rfl, rfl, rfl, rfl, by go_num, by omega, by decide, by have := HA.out.1; omega, by have := HA.out.2; omega, h, hnap, hwake, r0, r1, r2, r3, r4, r5⟩
            case measure => simp [intOf]; omega
          · go_wp2_with fail
            refine (nap_tells S g A 21 _ 2 5 i 20 q false w _ h hnap hAg hAS hA0 (by decide) (by decide) hF (by omega) hq (by rw [xs_len]; have := hq3.out; omega) (by rw [xs_len]; decide) hkn).mono ?_
            rintro e wz ⟨rfl, hj, hob, hk2⟩
            rw [sM _ q hq3.out] at hj
            replace h := hj
            replace hwake := (hk2.block hwake hCg.out (fun e => hAC.out e.symm))
            replace hnap := hob
            replace r0 := hk2.cell r0 hR.out hRA.out
            replace r1 := hk2.cell r1 hR.out hRA.out
            replace r2 := hk2.cell r2 hR.out hRA.out
            replace r3 := hk2.cell r3 hR.out hRA.out
            replace r4 := hk2.cell r4 hR.out hRA.out
            replace r5 := hk2.cell r5 hR.out hRA.out
            clear hj hob hk2
            go_wp2_with fail
            go_roundw
            case rel => exact ⟨true, true, false, false, 0, 1, 0, false, false, true, 2, 3, k + 1, rfl, rfl, rfl, rfl, rfl, by go_num, by omega, by decide, by have := HA.out.1; omega, by have := HA.out.2; omega, h, hnap, hwake, r0, r1, r2, r3, r4, r5⟩
            case measure => simp [intOf]; omega
          · go_wp2_with fail
            refine (rended_j S g (25 + 4 * q) _ 2 5 i 20 q (tOf 5 ((i : Nat) : Int) 0) true w _ h (by decide) (by decide) hF (by omega) hq hkd (Lib.hid (gD _ q hq3.out _ _)) tt (by rw [xs_len]; have := hq3.out; omega) (by rw [xs_len]; decide)).mono ?_
            rintro e wz ⟨rfl, hj, hk2⟩
            replace h := hj
            replace hnap := (hk2.block hnap hAg.out)
            replace hwake := (hk2.block hwake hCg.out)
            replace r0 := hk2.cell r0 hR.out
            replace r1 := hk2.cell r1 hR.out
            replace r2 := hk2.cell r2 hR.out
            replace r3 := hk2.cell r3 hR.out
            replace r4 := hk2.cell r4 hR.out
            replace r5 := hk2.cell r5 hR.out
            clear hj hk2
            go_wp2_with fail
            go_roundw
            case rel => exact ⟨true, false, false, true, 1, 0, 1, false, false, false, 0, 2, k + 1, rfl, rfl, rfl, rfl, rfl, by go_num, by omega, by decide, by have := HA.out.1; omega, by have := HA.out.2; omega, h, hnap, hwake, r0, r1, r2, r3, r4, r5⟩
            case measure => simp [intOf]; omega
          · go_wp2_with fail
            refine (nap_looks_no S g A (25 + 4 * q) _ 2 5 i 20 q false w _ h hnap hAg hAS hA0 (by decide) (by decide) hF (by omega) hq (by rw [xs_len]; have := hq3.out; omega) (by rw [xs_len]; decide) hkd 0 (Lib.hid (gD _ q hq3.out _ _)) t0).mono ?_
            rintro e wz ⟨rfl, hj, hob, hk2⟩
            replace h := hj
            replace hwake := (hk2.block hwake hCg.out (fun e => hAC.out e.symm))
            replace hnap := hob
            replace r0 := hk2.cell r0 hR.out hRA.out
            replace r1 := hk2.cell r1 hR.out hRA.out
            replace r2 := hk2.cell r2 hR.out hRA.out
            replace r3 := hk2.cell r3 hR.out hRA.out
            replace r4 := hk2.cell r4 hR.out hRA.out
            replace r5 := hk2.cell r5 hR.out hRA.out
            clear hj hob hk2
            go_wp2_with (first | (go_at_call 24; refine (nap_back A 2 5 i 3 false _ hnap).mono ?_; rintro e wy ⟨rfl, rfl⟩))
            go_roundw
            case rel => exact ⟨true, false, false, false, 0, 3, 0, false, false, true, 0, 3, k + 1, rfl, rfl, rfl, rfl, rfl, by go_num, by omega, by decide, by have := HA.out.1; omega, by have := HA.out.2; omega, h, hnap, hwake, r0, r1, r2, r3, r4, r5⟩
            case measure => simp [intOf]; omega
          · go_wp2_with fail
            refine (nap_tells S g A 21 _ 2 5 i 20 q false w _ h hnap hAg hAS hA0 (by decide) (by decide) hF (by omega) hq (by rw [xs_len]; have := hq3.out; omega) (by rw [xs_len]; decide) hkn).mono ?_
            rintro e wz ⟨rfl, hj, hob, hk2⟩
            rw [sM _ q hq3.out] at hj
            replace h := hj
            replace hwake := (hk2.block hwake hCg.out (fun e => hAC.out e.symm))
            replace hnap := hob
            replace r0 := hk2.cell r0 hR.out hRA.out
            replace r1 := hk2.cell r1 hR.out hRA.out
            replace r2 := hk2.cell r2 hR.out hRA.out
            replace r3 := hk2.cell r3 hR.out hRA.out
            replace r4 := hk2.cell r4 hR.out hRA.out
            replace r5 := hk2.cell r5 hR.out hRA.out
            clear hj hob hk2
            go_wp2_with fail
            go_roundw
            case rel => exact ⟨true, true, false, true, 0, 1, 1, false, false, true, 2, 2, k + 1, rfl, rfl, rfl, rfl, rfl, by go_num, by omega, by decide, by have := HA.out.1; omega, by have := HA.out.2; omega, h, hnap, hwake, r0, r1, r2, r3, r4, r5⟩
            case measure => simp [intOf]; omega
          · go_wp2_with fail
            go_roundw
            case rel => exact ⟨true, false, false, true, 1, 0, 1, false, false, false, 0, 2, k + 1, rfl, rfl, rfl, rfl, rfl, by go_num, by omega, by decide, by have := HA.out.1; omega, by have := HA.out.2; omega, h, hnap, hwake, r0, r1, r2, r3, r4, r5⟩
            case measure => simp [intOf]; omega
          · go_wp2_with fail
            refine (rended_j S g (25 + 4 * q) _ 2 5 i 20 q (tOf 5 ((i : Nat) : Int) 0) true w _ h (by decide) (by decide) hF (by omega) hq hkd (Lib.hid (gD _ q hq3.out _ _)) tt (by rw [xs_len]; have := hq3.out; omega) (by rw [xs_len]; decide)).mono ?_
            rintro e wz ⟨rfl, hj, hk2⟩
            replace h := hj
            replace hnap := (hk2.block hnap hAg.out)
            replace hwake := (hk2.block hwake hCg.out)
            replace r0 := hk2.cell r0 hR.out
            replace r1 := hk2.cell r1 hR.out
            replace r2 := hk2.cell r2 hR.out
            replace r3 := hk2.cell r3 hR.out
            replace r4 := hk2.cell r4 hR.out
            replace r5 := hk2.cell r5 hR.out
            clear hj hk2
            go_wp2_with fail
            go_roundw
            case rel => exact ⟨true, false, true, true, 1, 0, 3, false, false, false, 0, 0, k + 1, rfl, rfl, rfl, rfl, rfl, by go_num, by omega, by decide, by have := HA.out.1; omega, by have := HA.out.2; omega, h, hnap, hwake, r0, r1, r2, r3, r4, r5⟩
            case measure => simp [intOf]; omega
          · go_wp2_with fail
            go_roundw
            case rel => exact ⟨true, false, false, false, 0, 3, 0, false, false, true, 0, 3, k + 1, rfl, rfl, rfl, rfl, rfl, by go_num, by omega, by decide, by have := HA.out.1; omega, by have := HA.out.2; omega, h, hnap, hwake, r0, r1, r2, r3, r4, r5⟩
            case measure => simp [intOf]; omega
          · go_wp2_with fail
            refine (nap_looks_yes S g A (25 + 4 * q) _ 2 5 i 20 q false w _ h hnap hAg hAS hA0 (by decide) (by decide) hF (by omega) hq (by rw [xs_len]; have := hq3.out; omega) (by rw [xs_len]; decide) hkd (tOf 5 ((i : Nat) : Int) 0) (Lib.hid (gD _ q hq3.out _ _)) tt).mono ?_
            rintro e wz ⟨rfl, hj, hob, hk2⟩
            replace h := hj
            replace hwake := (hk2.block hwake hCg.out (fun e => hAC.out e.symm))
            replace hnap := hob
            replace r0 := hk2.cell r0 hR.out hRA.out
            replace r1 := hk2.cell r1 hR.out hRA.out
            replace r2 := hk2.cell r2 hR.out hRA.out
            replace r3 := hk2.cell r3 hR.out hRA.out
            replace r4 := hk2.cell r4 hR.out hRA.out
            replace r5 := hk2.cell r5 hR.out hRA.out
            clear hj hob hk2
            go_wp2_with fail
            go_roundw
            case rel => exact ⟨true, true, false, true, 0, 2, 1, false, false, true, 1, 2, k + 1, rfl, rfl, rfl, rfl, rfl, by go_num, by omega, by decide, by have := HA.out.1; omega, by have := HA.out.2; omega, h, hnap, hwake, r0, r1, r2, r3, r4, r5⟩
            case measure => simp [intOf]; omega
          · go_wp2_with fail
            refine (nap_tells S g A 21 _ 2 5 i 20 q false w _ h hnap hAg hAS hA0 (by decide) (by decide) hF (by omega) hq (by rw [xs_len]; have := hq3.out; omega) (by rw [xs_len]; decide) hkn).mono ?_
            rintro e wz ⟨rfl, hj, hob, hk2⟩
            rw [sM _ q hq3.out] at hj
            replace h := hj
            replace hwake := (hk2.block hwake hCg.out (fun e => hAC.out e.symm))
            replace hnap := hob
            replace r0 := hk2.cell r0 hR.out hRA.out
            replace r1 := hk2.cell r1 hR.out hRA.out
            replace r2 := hk2.cell r2 hR.out hRA.out
            replace r3 := hk2.cell r3 hR.out hRA.out
            replace r4 := hk2.cell r4 hR.out hRA.out
            replace r5 := hk2.cell r5 hR.out hRA.out
            clear hj hob hk2
            go_wp2_with fail
            go_roundw
            case rel => exact ⟨true, true, true, true, 0, 1, 3, false, false, true, 2, 0, k + 1, rfl, rfl, rfl, rfl, rfl, by go_num, by omega, by decide, by have := HA.out.1; omega, by have := HA.out.2; omega, h, hnap, hwake, r0, r1, r2, r3, r4, r5⟩
            case measure => simp [intOf]; omega
          · go_wp2_with fail
            go_roundw
            case rel => exact ⟨true, false, true, true, 1, 0, 3, false, false, false, 0, 0, k + 1, rfl, rfl, rfl, rfl, rfl, by go_num, by omega, by decide, by have := HA.out.1; omega, by have := HA.out.2; omega, h, hnap, hwake, r0, r1, r2, r3, r4, r5⟩
            case measure => simp [intOf]; omega
          · go_wp2_with fail
            go_roundw
            case rel => exact ⟨true, false, false, true, 0, 3, 1, false, false, true, 0, 2, k + 1, rfl, rfl, rfl, rfl, rfl, by go_num, by omega, by decide, by have := HA.out.1; omega, by have := HA.out.2; omega, h, hnap, hwake, r0, r1, r2, r3, r4, r5⟩
            case measure => simp [intOf]; omega
          · go_wp2_with fail
            refine (nap_rouses_yes S g A 21 _ 2 5 i 20 q false w _ h hnap hAg hAS hA0 (by decide) (by decide) hF (by omega) hq (by rw [xs_len]; have := hq3.out; omega) (by rw [xs_len]; decide) hkn (Lib.hid (gM _ q hq3.out _ _))).mono ?_
            rintro e wz ⟨rfl, hj, hob, hk2⟩
            rw [sM0 _ q hq3.out] at hj
            replace h := hj
            replace hwake := (hk2.block hwake hCg.out (fun e => hAC.out e.symm))
            replace hnap := hob
            replace r0 := hk2.cell r0 hR.out hRA.out
            replace r1 := hk2.cell r1 hR.out hRA.out
            replace r2 := hk2.cell r2 hR.out hRA.out
            replace r3 := hk2.cell r3 hR.out hRA.out
            replace r4 := hk2.cell r4 hR.out hRA.out
            replace r5 := hk2.cell r5 hR.out hRA.out
            clear hj hob hk2
            go_wp2_with (first | (go_at_call 24; refine (nap_back A 2 5 i 3 true _ hnap).mono ?_; rintro e wy ⟨rfl, rfl⟩))
            go_roundw
            case rel => exact ⟨true, false, false, true, 1, 3, 1, true, false, false, 0, 2, k + 1, rfl, rfl, rfl, rfl, rfl, by go_num, by omega, by decide, by have := HA.out.1; omega, by have := HA.out.2; omega, h, hnap, hwake, r0, r1, r2, r3, r4, r5⟩
            case measure => simp [intOf]; omega
          · go_wp2_with fail
            refine (nap_looks_yes S g A (25 + 4 * q) _ 2 5 i 20 q false w _ h hnap hAg hAS hA0 (by decide) (by decide) hF (by omega) hq (by rw [xs_len]; have := hq3.out; omega) (by rw [xs_len]; decide) hkd (tOf 5 ((i : Nat) : Int) 0) (Lib.hid (gD _ q hq3.out _ _)) tt).mono ?_
            rintro e wz ⟨rfl, hj, hob, hk2⟩
            replace h := hj
            replace hwake := (hk2.block hwake hCg.out (fun e => hAC.out e.symm))
            replace hnap := hob
            replace r0 := hk2.cell r0 hR.out hRA.out
            replace r1 := hk2.cell r1 hR.out hRA.out
            replace r2 := hk2.cell r2 hR.out hRA.out
            replace r3 := hk2.cell r3 hR.out hRA.out
            replace r4 := hk2.cell r4 hR.out hRA.out
            replace r5 := hk2.cell r5 hR.out hRA.out
            clear hj hob hk2
            go_wp2_with fail
            go_roundw
            case rel => exact ⟨true, true, false, true, 0, 2, 2, false, false, true, 1, 1, k + 1, rfl, rfl, rfl, rfl, rfl, by go_num, by omega, by decide, by have := HA.out.1; omega, by have := HA.out.2; omega, h, hnap, hwake, r0, r1, r2, r3, r4, r5⟩
            case measure => simp [intOf]; omega
          · go_wp2_with fail
            refine (nap_looks_yes S g A (25 + 4 * q) _ 2 5 i 20 q false w _ h hnap hAg hAS hA0 (by decide) (by decide) hF (by omega) hq (by rw [xs_len]; have := hq3.out; omega) (by rw [xs_len]; decide) hkd (tOf 5 ((i : Nat) : Int) 0) (Lib.hid (gD _ q hq3.out _ _)) tt).mono ?_
            rintro e wz ⟨rfl, hj, hob, hk2⟩
            replace h := hj
            replace hwake := (hk2.block hwake hCg.out (fun e => hAC.out e.symm))
            replace hnap := hob
            replace r0 := hk2.cell r0 hR.out hRA.out
            replace r1 := hk2.cell r1 hR.out hRA.out
            replace r2 := hk2.cell r2 hR.out hRA.out
            replace r3 := hk2.cell r3 hR.out hRA.out
            replace r4 := hk2.cell r4 hR.out hRA.out
            replace r5 := hk2.cell r5 hR.out hRA.out
            clear hj hob hk2
            go_wp2_with fail
            go_roundw
            case rel => exact ⟨true, true, true, true, 0, 2, 3, false, false, true, 1, 0, k + 1, rfl, rfl, rfl, rfl, rfl, by go_num, by omega, by decide, by have := HA.out.1; omega, by have := HA.out.2; omega, h, hnap, hwake, r0, r1, r2, r3, r4, r5⟩
            case measure => simp [intOf]; omega
          · go_wp2_with fail
            go_roundw
            case rel => exact ⟨true, false, false, true, 0, 3, 2, false, false, true, 0, 1, k + 1, rfl, rfl, rfl, rfl, rfl, by go_num, by omega, by decide, by have := HA.out.1; omega, by have := HA.out.2; omega, h, hnap, hwake, r0, r1, r2, r3, r4, r5⟩
            case measure => simp [intOf]; omega
          · go_wp2_with fail
            go_roundw
            case rel => exact ⟨true, false, false, true, 1, 3, 1, true, false, false, 0, 2, k + 1, rfl, rfl, rfl, rfl, rfl, by go_num, by omega, by decide, by have := HA.out.1; omega, by have := HA.out.2; omega, h, hnap, hwake, r0, r1, r2, r3, r4, r5⟩
            case measure => simp [intOf]; omega
          · go_wp2_with fail
            refine (nap_rouses_yes S g A 21 _ 2 5 i 20 q false w _ h hnap hAg hAS hA0 (by decide) (by decide) hF (by omega) hq (by rw [xs_len]; have := hq3.out; omega) (by rw [xs_len]; decide) hkn (Lib.hid (gM _ q hq3.out _ _))).mono ?_
            rintro e wz ⟨rfl, hj, hob, hk2⟩
            rw [sM0 _ q hq3.out] at hj
            replace h := hj
            replace hwake := (hk2.block hwake hCg.out (fun e => hAC.out e.symm))
            replace hnap := hob
            replace r0 := hk2.cell r0 hR.out hRA.out
            replace r1 := hk2.cell r1 hR.out hRA.out
            replace r2 := hk2.cell r2 hR.out hRA.out
            replace r3 := hk2.cell r3 hR.out hRA.out
            replace r4 := hk2.cell r4 hR.out hRA.out
            replace r5 := hk2.cell r5 hR.out hRA.out
            clear hj hob hk2
            go_wp2_with (first | (go_at_call 24; refine (nap_back A 2 5 i 3 true _ hnap).mono ?_; rintro e wy ⟨rfl, rfl⟩))
            go_roundw
            case rel => exact ⟨true, false, false, true, 1, 3, 2, true, false, false, 0, 1, k + 1, rfl, rfl, rfl, rfl, rfl, by go_num, by omega, by decide, by have := HA.out.1; omega, by have := HA.out.2; omega, h, hnap, hwake, r0, r1, r2, r3, r4, r5⟩
            case measure => simp [intOf]; omega
          · go_wp2_with fail
            refine (nap_looks_yes S g A (25 + 4 * q) _ 2 5 i 20 q false w _ h hnap hAg hAS hA0 (by decide) (by decide) hF (by omega) hq (by rw [xs_len]; have := hq3.out; omega) (by rw [xs_len]; decide) hkd (tOf 5 ((i : Nat) : Int) 0) (Lib.hid (gD _ q hq3.out _ _)) tt).mono ?_
            rintro e wz ⟨rfl, hj, hob, hk2⟩
            replace h := hj
            replace hwake := (hk2.block hwake hCg.out (fun e => hAC.out e.symm))
            replace hnap := hob
            replace r0 := hk2.cell r0 hR.out hRA.out
            replace r1 := hk2.cell r1 hR.out hRA.out
            replace r2 := hk2.cell r2 hR.out hRA.out
            replace r3 := hk2.cell r3 hR.out hRA.out
            replace r4 := hk2.cell r4 hR.out hRA.out
            replace r5 := hk2.cell r5 hR.out hRA.out
            clear hj hob hk2
            go_wp2_with fail
            go_roundw
            case rel => exact ⟨true, true, true, true, 1, 2, 3, false, true, false, 1, 0, k + 1, rfl, rfl, rfl, rfl, rfl, by go_num, by omega, by decide, by have := HA.out.1; omega, by have := HA.out.2; omega, h, hnap, hwake, r0, r1, r2, r3, r4, r5⟩
            case measure => simp [intOf]; omega
          · go_wp2_with fail
            refine (nap_rouses_yes S g A 21 _ 2 5 i 20 q false w _ h hnap hAg hAS hA0 (by decide) (by decide) hF (by omega) hq (by rw [xs_len]; have := hq3.out; omega) (by rw [xs_len]; decide) hkn (Lib.hid (gM _ q hq3.out _ _))).mono ?_
            rintro e wz ⟨rfl, hj, hob, hk2⟩
            rw [sM0 _ q hq3.out] at hj
            replace h := hj
            replace hwake := (hk2.block hwake hCg.out (fun e => hAC.out e.symm))
            replace hnap := hob
            replace r0 := hk2.cell r0 hR.out hRA.out
            replace r1 := hk2.cell r1 hR.out hRA.out
            replace r2 := hk2.cell r2 hR.out hRA.out
            replace r3 := hk2.cell r3 hR.out hRA.out
            replace r4 := hk2.cell r4 hR.out hRA.out
            replace r5 := hk2.cell r5 hR.out hRA.out
            clear hj hob hk2
            go_wp2_with (first | (go_at_call 24; refine (nap_back A 2 5 i 3 true _ hnap).mono ?_; rintro e wy ⟨rfl, rfl⟩))
            go_roundw
            case rel => exact ⟨true, false, true, true, 1, 3, 3, true, false, false, 0, 0, k + 1, rfl, rfl, rfl, rfl, rfl, by go_num, by omega, by decide, by have := HA.out.1; omega, by have := HA.out.2; omega, h, hnap, hwake, r0, r1, r2, r3, r4, r5⟩
            case measure => simp [intOf]; omega
          · go_wp2_with fail
            go_roundw
            case rel => exact ⟨true, false, true, true, 1, 3, 3, false, true, false, 0, 0, k + 1, rfl, rfl, rfl, rfl, rfl, by go_num, by omega, by decide, by have := HA.out.1; omega, by have := HA.out.2; omega, h, hnap, hwake, r0, r1, r2, r3, r4, r5⟩
            case measure => simp [intOf]; omega
          · go_wp2_with fail
            go_roundw
            case rel => exact ⟨true, false, true, true, 1, 3, 3, true, false, false, 0, 0, k + 1, rfl, rfl, rfl, rfl, rfl, by go_num, by omega, by decide, by have := HA.out.1; omega, by have := HA.out.2; omega, h, hnap, hwake, r0, r1, r2, r3, r4, r5⟩
            case measure => simp [intOf]; omega
          · go_wp2_with fail
            go_roundw
            case rel => exact ⟨true, false, false, true, 1, 3, 2, true, false, false, 0, 1, k + 1, rfl, rfl, rfl, rfl, rfl, by go_num, by omega, by decide, by have := HA.out.1; omega, by have := HA.out.2; omega, h, hnap, hwake, r0, r1, r2, r3, r4, r5⟩
            case measure => simp [intOf]; omega
          · go_wp2_with fail
            refine (nap_rouses_no S g A 21 _ 2 5 i 20 q false w _ h hnap hAg hAS hA0 (by decide) (by decide) hF (by omega) hq (by rw [xs_len]; have := hq3.out; omega) (by rw [xs_len]; decide) hkn 0 (Lib.hid (gM _ q hq3.out _ _)) n0).mono ?_
            rintro e wz ⟨rfl, hj, hob, hk2⟩
            replace h := hj
            replace hwake := (hk2.block hwake hCg.out (fun e => hAC.out e.symm))
            replace hnap := hob
            replace r0 := hk2.cell r0 hR.out hRA.out
            replace r1 := hk2.cell r1 hR.out hRA.out
            replace r2 := hk2.cell r2 hR.out hRA.out
            replace r3 := hk2.cell r3 hR.out hRA.out
            replace r4 := hk2.cell r4 hR.out hRA.out
            replace r5 := hk2.cell r5 hR.out hRA.out
            clear hj hob hk2
            go_wp2_with (first | (go_at_call 24; refine (nap_back A 2 5 i 3 false _ hnap).mono ?_; rintro e wy ⟨rfl, rfl⟩))
            go_roundw
            case rel => exact ⟨true, false, true, true, 1, 3, 3, false, true, false, 0, 0, k + 1, rfl, rfl, rfl, rfl, rfl, by go_num, by omega, by decide, by have := HA.out.1; omega, by have := HA.out.2; omega, h, hnap, hwake, r0, r1, r2, r3, r4, r5⟩
            case measure => simp [intOf]; omega
        · have hp : ((k : Nat) : Int).tmod 2 = 1 := by rw [Int.tmod_eq_emod_of_nonneg (by omega)]; omega
          simp only [okL, List.mem_cons, Prod.mk.injEq, List.not_mem_nil, or_false] at hok
          rcases hok with ⟨rfl, rfl, rfl, rfl, rfl, rfl, rfl, rfl, rfl, rfl, rfl, rfl⟩ | ⟨rfl, rfl, rfl, rfl, rfl, rfl, rfl, rfl, rfl, rfl, rfl, rfl⟩ | ⟨rfl, rfl, rfl, rfl, rfl, rfl, rfl, rfl, rfl, rfl, rfl, rfl⟩ | ⟨rfl, rfl, rfl, rfl, rfl, rfl, rfl, rfl, rfl, rfl, rfl, rfl⟩ | ⟨rfl, rfl, rfl, rfl, rfl, rfl, rfl, rfl, rfl, rfl, rfl, rfl⟩ | ⟨rfl, rfl, rfl, rfl, rfl, rfl, rfl, rfl, rfl, rfl, rfl, rfl⟩ | ⟨rfl, rfl, rfl, rfl, rfl, rfl, rfl, rfl, rfl, rfl, rfl, rfl⟩ | ⟨rfl, rfl, rfl, rfl, rfl, rfl, rfl, rfl, rfl, rfl, rfl, rfl⟩ | ⟨rfl, rfl, rfl, rfl, rfl, rfl, rfl, rfl, rfl, rfl, rfl, rfl⟩ | ⟨rfl, rfl, rfl, rfl, rfl, rfl, rfl, rfl, rfl, rfl, rfl, rfl⟩ | ⟨rfl, rfl, rfl, rfl, rfl, rfl, rfl, rfl, rfl, rfl, rfl, rfl⟩ | ⟨rfl, rfl, rfl, rfl, rfl, rfl, rfl, rfl, rfl, rfl, rfl, rfl⟩ | ⟨rfl, rfl, rfl, rfl, rfl, rfl, rfl, rfl, rfl, rfl, rfl, rfl⟩ | ⟨rfl, rfl, rfl, rfl, rfl, rfl, rfl, rfl, rfl, rfl, rfl, rfl⟩ | ⟨rfl, rfl, rfl, rfl, rfl, rfl, rfl, rfl, rfl, rfl, rfl, rfl⟩ | ⟨rfl, rfl, rfl, rfl, rfl, rfl, rfl, rfl, rfl, rfl, rfl, rfl⟩ | ⟨rfl, rfl, rfl, rfl, rfl, rfl, rfl, rfl, rfl, rfl, rfl, rfl⟩ | ⟨rfl, rfl, rfl, rfl, rfl, rfl, rfl, rfl, rfl, rfl, rfl, rfl⟩ | ⟨rfl, rfl, rfl, rfl, rfl, rfl, rfl, rfl, rfl, rfl, rfl, rfl⟩ | ⟨rfl, rfl, rfl, rfl, rfl, rfl, rfl, rfl, rfl, rfl, rfl, rfl⟩ | ⟨rfl, rfl, rfl, rfl, rfl, rfl, rfl, rfl, rfl, rfl, rfl, rfl⟩ | ⟨rfl, rfl, rfl, rfl, rfl, rfl, rfl, rfl, rfl, rfl, rfl, rfl⟩ | ⟨rfl, rfl, rfl, rfl, rfl, rfl, rfl, rfl, rfl, rfl, rfl, rfl⟩ | ⟨rfl, rfl, rfl, rfl, rfl, rfl, rfl, rfl, rfl, rfl, rfl, rfl⟩
          · go_wp2_with fail
            refine (wake_tells S g C (25 + 4 * q) _ 2 5 i 20 q false w _ h hwake hCg hCS hC0 (by decide) (by decide) hF (by omega) hq (by rw [xs_len]; have := hq3.out; omega) (by rw [xs_len]; decide) hkd).mono ?_
            rintro e wz ⟨rfl, hj, hob, hk2⟩
            rw [sD _ q hq3.out] at hj
            replace h := hj
            replace hnap := (hk2.block hnap hAg.out hAC.out)
            replace hwake := hob
            replace r0 := hk2.cell r0 hR.out hRC.out
            replace r1 := hk2.cell r1 hR.out hRC.out
            replace r2 := hk2.cell r2 hR.out hRC.out
            replace r3 := hk2.cell r3 hR.out hRC.out
            replace r4 := hk2.cell r4 hR.out hRC.out
            replace r5 := hk2.cell r5 hR.out hRC.out
            clear hj hob hk2
            go_wp2_with fail
            go_roundw
            case rel => exact ⟨false, false, false, true, 0, 0, 1, false, false, false, 4, 2, k + 1, rfl, rfl, rfl, rfl, rfl, by go_num, by omega, by decide, by have := HA.out.1; omega, by have := HA.out.2; omega, h, hnap, hwake, r0, r1, r2, r3, r4, r5⟩
            case measure => simp [intOf]; omega
          · go_wp2_with fail
            refine (wake_tells S g C (25 + 4 * q) _ 2 5 i 20 q false w _ h hwake hCg hCS hC0 (by decide) (by decide) hF (by omega) hq (by rw [xs_len]; have := hq3.out; omega) (by rw [xs_len]; decide) hkd).mono ?_
            rintro e wz ⟨rfl, hj, hob, hk2⟩
            rw [sD _ q hq3.out] at hj
            replace h := hj
            replace hnap := (hk2.block hnap hAg.out hAC.out)
            replace hwake := hob
            replace r0 := hk2.cell r0 hR.out hRC.out
            replace r1 := hk2.cell r1 hR.out hRC.out
            replace r2 := hk2.cell r2 hR.out hRC.out
            replace r3 := hk2.cell r3 hR.out hRC.out
            replace r4 := hk2.cell r4 hR.out hRC.out
            replace r5 := hk2.cell r5 hR.out hRC.out
            clear hj hob hk2
            go_wp2_with fail
            go_roundw
            case rel => exact ⟨true, true, false, true, 0, 0, 1, false, false, false, 3, 2, k + 1, rfl, rfl, rfl, rfl, rfl, by go_num, by omega, by decide, by have := HA.out.1; omega, by have := HA.out.2; omega, h, hnap, hwake, r0, r1, r2, r3, r4, r5⟩
            case measure => simp [intOf]; omega
          · go_wp2_with fail
            refine (wake_looks_no S g C 21 _ 2 5 i 20 q false w _ h hwake hCg hCS hC0 (by decide) (by decide) hF (by omega) hq (by rw [xs_len]; have := hq3.out; omega) (by rw [xs_len]; decide) hkn 0 (Lib.hid (gM _ q hq3.out _ _)) t0).mono ?_
            rintro e wz ⟨rfl, hj, hob, hk2⟩
            replace h := hj
            replace hnap := (hk2.block hnap hAg.out hAC.out)
            replace hwake := hob
            replace r0 := hk2.cell r0 hR.out hRC.out
            replace r1 := hk2.cell r1 hR.out hRC.out
            replace r2 := hk2.cell r2 hR.out hRC.out
            replace r3 := hk2.cell r3 hR.out hRC.out
            replace r4 := hk2.cell r4 hR.out hRC.out
            replace r5 := hk2.cell r5 hR.out hRC.out
            clear hj hob hk2
            go_wp2_with (first | (go_at_call 26; refine (wake_got C 2 5 i 3 false _ hwake).mono ?_; rintro e wy ⟨rfl, rfl⟩))
            go_roundw
            case rel => exact ⟨false, false, true, true, 0, 0, 3, false, false, false, 4, 0, k + 1, rfl, rfl, rfl, rfl, rfl, by go_num, by omega, by decide, by have := HA.out.1; omega, by have := HA.out.2; omega, h, hnap, hwake, r0, r1, r2, r3, r4, r5⟩
            case measure => simp [intOf]; omega
          · go_wp2_with fail
            refine (wake_tells S g C (25 + 4 * q) _ 2 5 i 20 q false w _ h hwake hCg hCS hC0 (by decide) (by decide) hF (by omega) hq (by rw [xs_len]; have := hq3.out; omega) (by rw [xs_len]; decide) hkd).mono ?_
            rintro e wz ⟨rfl, hj, hob, hk2⟩
            rw [sD _ q hq3.out] at hj
            replace h := hj
            replace hnap := (hk2.block hnap hAg.out hAC.out)
            replace hwake := hob
            replace r0 := hk2.cell r0 hR.out hRC.out
            replace r1 := hk2.cell r1 hR.out hRC.out
            replace r2 := hk2.cell r2 hR.out hRC.out
            replace r3 := hk2.cell r3 hR.out hRC.out
            replace r4 := hk2.cell r4 hR.out hRC.out
            replace r5 := hk2.cell r5 hR.out hRC.out
            clear hj hob hk2
            go_wp2_with fail
            go_roundw
            case rel => exact ⟨true, true, false, true, 0, 1, 1, false, false, true, 2, 2, k + 1, rfl, rfl, rfl, rfl, rfl, by go_num, by omega, by decide, by have := HA.out.1; omega, by have := HA.out.2; omega, h, hnap, hwake, r0, r1, r2, r3, r4, r5⟩
            case measure => simp [intOf]; omega
          · go_wp2_with fail
            refine (wake_looks_no S g C 21 _ 2 5 i 20 q false w _ h hwake hCg hCS hC0 (by decide) (by decide) hF (by omega) hq (by rw [xs_len]; have := hq3.out; omega) (by rw [xs_len]; decide) hkn 0 (Lib.hid (gM _ q hq3.out _ _)) t0).mono ?_
            rintro e wz ⟨rfl, hj, hob, hk2⟩
            replace h := hj
            replace hnap := (hk2.block hnap hAg.out hAC.out)
            replace hwake := hob
            replace r0 := hk2.cell r0 hR.out hRC.out
            replace r1 := hk2.cell r1 hR.out hRC.out
            replace r2 := hk2.cell r2 hR.out hRC.out
            replace r3 := hk2.cell r3 hR.out hRC.out
            replace r4 := hk2.cell r4 hR.out hRC.out
            replace r5 := hk2.cell r5 hR.out hRC.out
            clear hj hob hk2
            go_wp2_with (first | (go_at_call 26; refine (wake_got C 2 5 i 3 false _ hwake).mono ?_; rintro e wy ⟨rfl, rfl⟩))
            go_roundw
            case rel => exact ⟨true, true, true, true, 0, 0, 3, false, false, false, 3, 0, k + 1, rfl, rfl, rfl, rfl, rfl, by go_num, by omega, by decide, by have := HA.out.1; omega, by have := HA.out.2; omega, h, hnap, hwake, r0, r1, r2, r3, r4, r5⟩
            case measure => simp [intOf]; omega
          · go_wp2_with fail
            refine (wake_looks_no S g C 21 _ 2 5 i 20 q false w _ h hwake hCg hCS hC0 (by decide) (by decide) hF (by omega) hq (by rw [xs_len]; have := hq3.out; omega) (by rw [xs_len]; decide) hkn 0 (Lib.hid (gM _ q hq3.out _ _)) t0).mono ?_
            rintro e wz ⟨rfl, hj, hob, hk2⟩
            replace h := hj
            replace hnap := (hk2.block hnap hAg.out hAC.out)
            replace hwake := hob
            replace r0 := hk2.cell r0 hR.out hRC.out
            replace r1 := hk2.cell r1 hR.out hRC.out
            replace r2 := hk2.cell r2 hR.out hRC.out
            replace r3 := hk2.cell r3 hR.out hRC.out
            replace r4 := hk2.cell r4 hR.out hRC.out
            replace r5 := hk2.cell r5 hR.out hRC.out
            clear hj hob hk2
            go_wp2_with (first | (go_at_call 26; refine (wake_got C 2 5 i 3 false _ hwake).mono ?_; rintro e wy ⟨rfl, rfl⟩))
            go_roundw
            case rel => exact ⟨true, false, true, true, 1, 0, 3, false, false, false, 0, 0, k + 1, rfl, rfl, rfl, rfl, rfl, by go_num, by omega, by decide, by have := HA.out.1; omega, by have := HA.out.2; omega, h, hnap, hwake, r0, r1, r2, r3, r4, r5⟩
            case measure => simp [intOf]; omega
          · go_wp2_with fail
            go_roundw
            case rel => exact ⟨false, false, true, true, 0, 0, 3, false, false, false, 4, 0, k + 1, rfl, rfl, rfl, rfl, rfl, by go_num, by omega, by decide, by have := HA.out.1; omega, by have := HA.out.2; omega, h, hnap, hwake, r0, r1, r2, r3, r4, r5⟩
            case measure => simp [intOf]; omega
          · go_wp2_with fail
            refine (wake_tells S g C (25 + 4 * q) _ 2 5 i 20 q false w _ h hwake hCg hCS hC0 (by decide) (by decide) hF (by omega) hq (by rw [xs_len]; have := hq3.out; omega) (by rw [xs_len]; decide) hkd).mono ?_
            rintro e wz ⟨rfl, hj, hob, hk2⟩
            rw [sD _ q hq3.out] at hj
            replace h := hj
            replace hnap := (hk2.block hnap hAg.out hAC.out)
            replace hwake := hob
            replace r0 := hk2.cell r0 hR.out hRC.out
            replace r1 := hk2.cell r1 hR.out hRC.out
            replace r2 := hk2.cell r2 hR.out hRC.out
            replace r3 := hk2.cell r3 hR.out hRC.out
            replace r4 := hk2.cell r4 hR.out hRC.out
            replace r5 := hk2.cell r5 hR.out hRC.out
            clear hj hob hk2
            go_wp2_with fail
            go_roundw
            case rel => exact ⟨true, false, false, true, 0, 3, 1, false, false, true, 0, 2, k + 1, rfl, rfl, rfl, rfl, rfl, by go_num, by omega, by decide, by have := HA.out.1; omega, by have := HA.out.2; omega, h, hnap, hwake, r0, r1, r2, r3, r4, r5⟩
            case measure => simp [intOf]; omega
          · go_wp2_with fail
            refine (wake_looks_yes S g C 21 _ 2 5 i 20 q false w _ h hwake hCg hCS hC0 (by decide) (by decide) hF (by omega) hq (by rw [xs_len]; have := hq3.out; omega) (by rw [xs_len]; decide) hkn (tOf 5 ((i : Nat) : Int) 0) (Lib.hid (gM _ q hq3.out _ _)) tt).mono ?_
            rintro e wz ⟨rfl, hj, hob, hk2⟩
            replace h := hj
            replace hnap := (hk2.block hnap hAg.out hAC.out)
            replace hwake := hob
            replace r0 := hk2.cell r0 hR.out hRC.out
            replace r1 := hk2.cell r1 hR.out hRC.out
            replace r2 := hk2.cell r2 hR.out hRC.out
            replace r3 := hk2.cell r3 hR.out hRC.out
            replace r4 := hk2.cell r4 hR.out hRC.out
            replace r5 := hk2.cell r5 hR.out hRC.out
            clear hj hob hk2
            go_wp2_with fail
            go_roundw
            case rel => exact ⟨true, true, false, true, 0, 1, 2, false, false, true, 2, 1, k + 1, rfl, rfl, rfl, rfl, rfl, by go_num, by omega, by decide, by have := HA.out.1; omega, by have := HA.out.2; omega, h, hnap, hwake, r0, r1, r2, r3, r4, r5⟩
            case measure => simp [intOf]; omega
          · go_wp2_with fail
            go_roundw
            case rel => exact ⟨true, true, true, true, 0, 0, 3, false, false, false, 3, 0, k + 1, rfl, rfl, rfl, rfl, rfl, by go_num, by omega, by decide, by have := HA.out.1; omega, by have := HA.out.2; omega, h, hnap, hwake, r0, r1, r2, r3, r4, r5⟩
            case measure => simp [intOf]; omega
          · go_wp2_with fail
            go_roundw
            case rel => exact ⟨true, false, true, true, 1, 0, 3, false, false, false, 0, 0, k + 1, rfl, rfl, rfl, rfl, rfl, by go_num, by omega, by decide, by have := HA.out.1; omega, by have := HA.out.2; omega, h, hnap, hwake, r0, r1, r2, r3, r4, r5⟩
            case measure => simp [intOf]; omega
          · go_wp2_with fail
            refine (wake_looks_yes S g C 21 _ 2 5 i 20 q false w _ h hwake hCg hCS hC0 (by decide) (by decide) hF (by omega) hq (by rw [xs_len]; have := hq3.out; omega) (by rw [xs_len]; decide) hkn (tOf 5 ((i : Nat) : Int) 0) (Lib.hid (gM _ q hq3.out _ _)) tt).mono ?_
            rintro e wz ⟨rfl, hj, hob, hk2⟩
            replace h := hj
            replace hnap := (hk2.block hnap hAg.out hAC.out)
            replace hwake := hob
            replace r0 := hk2.cell r0 hR.out hRC.out
            replace r1 := hk2.cell r1 hR.out hRC.out
            replace r2 := hk2.cell r2 hR.out hRC.out
            replace r3 := hk2.cell r3 hR.out hRC.out
            replace r4 := hk2.cell r4 hR.out hRC.out
            replace r5 := hk2.cell r5 hR.out hRC.out
            clear hj hob hk2
            go_wp2_with fail
            go_roundw
            case rel => exact ⟨true, false, false, true, 0, 3, 2, false, false, true, 0, 1, k + 1, rfl, rfl, rfl, rfl, rfl, by go_num, by omega, by decide, by have := HA.out.1; omega, by have := HA.out.2; omega, h, hnap, hwake, r0, r1, r2, r3, r4, r5⟩
            case measure => simp [intOf]; omega
          · go_wp2_with fail
            refine (wake_looks_yes S g C 21 _ 2 5 i 20 q false w _ h hwake hCg hCS hC0 (by decide) (by decide) hF (by omega) hq (by rw [xs_len]; have := hq3.out; omega) (by rw [xs_len]; decide) hkn (tOf 5 ((i : Nat) : Int) 0) (Lib.hid (gM _ q hq3.out _ _)) tt).mono ?_
            rintro e wz ⟨rfl, hj, hob, hk2⟩
            replace h := hj
            replace hnap := (hk2.block hnap hAg.out hAC.out)
            replace hwake := hob
            replace r0 := hk2.cell r0 hR.out hRC.out
            replace r1 := hk2.cell r1 hR.out hRC.out
            replace r2 := hk2.cell r2 hR.out hRC.out
            replace r3 := hk2.cell r3 hR.out hRC.out
            replace r4 := hk2.cell r4 hR.out hRC.out
            replace r5 := hk2.cell r5 hR.out hRC.out
            clear hj hob hk2
            go_wp2_with fail
            go_roundw
            case rel => exact ⟨true, true, false, true, 0, 2, 2, false, false, true, 1, 1, k + 1, rfl, rfl, rfl, rfl, rfl, by go_num, by omega, by decide, by have := HA.out.1; omega, by have := HA.out.2; omega, h, hnap, hwake, r0, r1, r2, r3, r4, r5⟩
            case measure => simp [intOf]; omega
          · go_wp2_with fail
            refine (wake_rouses_yes S g C 21 _ 2 5 i 20 q false w _ h hwake hCg hCS hC0 (by decide) (by decide) hF (by omega) hq (by rw [xs_len]; have := hq3.out; omega) (by rw [xs_len]; decide) hkn (Lib.hid (gM _ q hq3.out _ _))).mono ?_
            rintro e wz ⟨rfl, hj, hob, hk2⟩
            rw [sM0 _ q hq3.out] at hj
            replace h := hj
            replace hnap := (hk2.block hnap hAg.out hAC.out)
            replace hwake := hob
            replace r0 := hk2.cell r0 hR.out hRC.out
            replace r1 := hk2.cell r1 hR.out hRC.out
            replace r2 := hk2.cell r2 hR.out hRC.out
            replace r3 := hk2.cell r3 hR.out hRC.out
            replace r4 := hk2.cell r4 hR.out hRC.out
            replace r5 := hk2.cell r5 hR.out hRC.out
            clear hj hob hk2
            go_wp2_with (first | (go_at_call 26; refine (wake_got C 2 5 i 3 true _ hwake).mono ?_; rintro e wy ⟨rfl, rfl⟩))
            go_roundw
            case rel => exact ⟨true, true, true, true, 1, 1, 3, false, true, false, 2, 0, k + 1, rfl, rfl, rfl, rfl, rfl, by go_num, by omega, by decide, by have := HA.out.1; omega, by have := HA.out.2; omega, h, hnap, hwake, r0, r1, r2, r3, r4, r5⟩
            case measure => simp [intOf]; omega
          · go_wp2_with fail
            go_roundw
            case rel => exact ⟨true, true, true, true, 0, 1, 3, false, false, true, 2, 0, k + 1, rfl, rfl, rfl, rfl, rfl, by go_num, by omega, by decide, by have := HA.out.1; omega, by have := HA.out.2; omega, h, hnap, hwake, r0, r1, r2, r3, r4, r5⟩
            case measure => simp [intOf]; omega
          · go_wp2_with fail
            refine (wake_rouses_yes S g C 21 _ 2 5 i 20 q false w _ h hwake hCg hCS hC0 (by decide) (by decide) hF (by omega) hq (by rw [xs_len]; have := hq3.out; omega) (by rw [xs_len]; decide) hkn (Lib.hid (gM _ q hq3.out _ _))).mono ?_
            rintro e wz ⟨rfl, hj, hob, hk2⟩
            rw [sM0 _ q hq3.out] at hj
            replace h := hj
            replace hnap := (hk2.block hnap hAg.out hAC.out)
            replace hwake := hob
            replace r0 := hk2.cell r0 hR.out hRC.out
            replace r1 := hk2.cell r1 hR.out hRC.out
            replace r2 := hk2.cell r2 hR.out hRC.out
            replace r3 := hk2.cell r3 hR.out hRC.out
            replace r4 := hk2.cell r4 hR.out hRC.out
            replace r5 := hk2.cell r5 hR.out hRC.out
            clear hj hob hk2
            go_wp2_with (first | (go_at_call 26; refine (wake_got C 2 5 i 3 true _ hwake).mono ?_; rintro e wy ⟨rfl, rfl⟩))
            go_roundw
            case rel => exact ⟨true, false, true, true, 1, 3, 3, false, true, false, 0, 0, k + 1, rfl, rfl, rfl, rfl, rfl, by go_num, by omega, by decide, by have := HA.out.1; omega, by have := HA.out.2; omega, h, hnap, hwake, r0, r1, r2, r3, r4, r5⟩
            case measure => simp [intOf]; omega
          · go_wp2_with fail
            refine (wake_looks_no S g C 21 _ 2 5 i 20 q false w _ h hwake hCg hCS hC0 (by decide) (by decide) hF (by omega) hq (by rw [xs_len]; have := hq3.out; omega) (by rw [xs_len]; decide) hkn 0 (Lib.hid (gM _ q hq3.out _ _)) t0).mono ?_
            rintro e wz ⟨rfl, hj, hob, hk2⟩
            replace h := hj
            replace hnap := (hk2.block hnap hAg.out hAC.out)
            replace hwake := hob
            replace r0 := hk2.cell r0 hR.out hRC.out
            replace r1 := hk2.cell r1 hR.out hRC.out
            replace r2 := hk2.cell r2 hR.out hRC.out
            replace r3 := hk2.cell r3 hR.out hRC.out
            replace r4 := hk2.cell r4 hR.out hRC.out
            replace r5 := hk2.cell r5 hR.out hRC.out
            clear hj hob hk2
            go_wp2_with (first | (go_at_call 26; refine (wake_got C 2 5 i 3 false _ hwake).mono ?_; rintro e wy ⟨rfl, rfl⟩))
            go_roundw
            case rel => exact ⟨true, false, true, true, 1, 3, 3, true, false, false, 0, 0, k + 1, rfl, rfl, rfl, rfl, rfl, by go_num, by omega, by decide, by have := HA.out.1; omega, by have := HA.out.2; omega, h, hnap, hwake, r0, r1, r2, r3, r4, r5⟩
            case measure => simp [intOf]; omega
          · go_wp2_with fail
            refine (wake_rouses_yes S g C 21 _ 2 5 i 20 q false w _ h hwake hCg hCS hC0 (by decide) (by decide) hF (by omega) hq (by rw [xs_len]; have := hq3.out; omega) (by rw [xs_len]; decide) hkn (Lib.hid (gM _ q hq3.out _ _))).mono ?_
            rintro e wz ⟨rfl, hj, hob, hk2⟩
            rw [sM0 _ q hq3.out] at hj
            replace h := hj
            replace hnap := (hk2.block hnap hAg.out hAC.out)
            replace hwake := hob
            replace r0 := hk2.cell r0 hR.out hRC.out
            replace r1 := hk2.cell r1 hR.out hRC.out
            replace r2 := hk2.cell r2 hR.out hRC.out
            replace r3 := hk2.cell r3 hR.out hRC.out
            replace r4 := hk2.cell r4 hR.out hRC.out
            replace r5 := hk2.cell r5 hR.out hRC.out
            clear hj hob hk2
            go_wp2_with (first | (go_at_call 26; refine (wake_got C 2 5 i 3 true _ hwake).mono ?_; rintro e wy ⟨rfl, rfl⟩))
            go_roundw
            case rel => exact ⟨true, true, true, true, 1, 2, 3, false, true, false, 1, 0, k + 1, rfl, rfl, rfl, rfl, rfl, by go_num, by omega, by decide, by have := HA.out.1; omega, by have := HA.out.2; omega, h, hnap, hwake, r0, r1, r2, r3, r4, r5⟩
            case measure => simp [intOf]; omega
          · go_wp2_with fail
            go_roundw
            case rel => exact ⟨true, true, true, true, 1, 1, 3, false, true, false, 2, 0, k + 1, rfl, rfl, rfl, rfl, rfl, by go_num, by omega, by decide, by have := HA.out.1; omega, by have := HA.out.2; omega, h, hnap, hwake, r0, r1, r2, r3, r4, r5⟩
            case measure => simp [intOf]; omega
          · go_wp2_with fail
            go_roundw
            case rel => exact ⟨true, true, true, true, 0, 2, 3, false, false, true, 1, 0, k + 1, rfl, rfl, rfl, rfl, rfl, by go_num, by omega, by decide, by have := HA.out.1; omega, by have := HA.out.2; omega, h, hnap, hwake, r0, r1, r2, r3, r4, r5⟩
            case measure => simp [intOf]; omega
          · go_wp2_with fail
            go_roundw
            case rel => exact ⟨true, false, true, true, 1, 3, 3, false, true, false, 0, 0, k + 1, rfl, rfl, rfl, rfl, rfl, by go_num, by omega, by decide, by have := HA.out.1; omega, by have := HA.out.2; omega, h, hnap, hwake, r0, r1, r2, r3, r4, r5⟩
            case measure => simp [intOf]; omega
          · go_wp2_with fail
            go_roundw
            case rel => exact ⟨true, false, true, true, 1, 3, 3, true, false, false, 0, 0, k + 1, rfl, rfl, rfl, rfl, rfl, by go_num, by omega, by decide, by have := HA.out.1; omega, by have := HA.out.2; omega, h, hnap, hwake, r0, r1, r2, r3, r4, r5⟩
            case measure => simp [intOf]; omega
          · go_wp2_with fail
            refine (wake_rouses_no S g C 21 _ 2 5 i 20 q false w _ h hwake hCg hCS hC0 (by decide) (by decide) hF (by omega) hq (by rw [xs_len]; have := hq3.out; omega) (by rw [xs_len]; decide) hkn 0 (Lib.hid (gM _ q hq3.out _ _)) n0).mono ?_
            rintro e wz ⟨rfl, hj, hob, hk2⟩
            replace h := hj
            replace hnap := (hk2.block hnap hAg.out hAC.out)
            replace hwake := hob
            replace r0 := hk2.cell r0 hR.out hRC.out
            replace r1 := hk2.cell r1 hR.out hRC.out
            replace r2 := hk2.cell r2 hR.out hRC.out
            replace r3 := hk2.cell r3 hR.out hRC.out
            replace r4 := hk2.cell r4 hR.out hRC.out
            replace r5 := hk2.cell r5 hR.out hRC.out
            clear hj hob hk2
            go_wp2_with (first | (go_at_call 26; refine (wake_got C 2 5 i 3 false _ hwake).mono ?_; rintro e wy ⟨rfl, rfl⟩))
            go_roundw
            case rel => exact ⟨true, false, true, true, 1, 3, 3, true, false, false, 0, 0, k + 1, rfl, rfl, rfl, rfl, rfl, by go_num, by omega, by decide, by have := HA.out.1; omega, by have := HA.out.2; omega, h, hnap, hwake, r0, r1, r2, r3, r4, r5⟩
            case measure => simp [intOf]; omega
          · go_wp2_with fail
            go_roundw
            case rel => exact ⟨true, true, true, true, 1, 2, 3, false, true, false, 1, 0, k + 1, rfl, rfl, rfl, rfl, rfl, by go_num, by omega, by decide, by have := HA.out.1; omega, by have := HA.out.2; omega, h, hnap, hwake, r0, r1, r2, r3, r4, r5⟩
            case measure => simp [intOf]; omega
    · obtain rfl : k = len + 20 := by omega
      have hlt' : ¬ ((len + 20 : Nat) : Int) < (len : Int) + 20 := by omega
      have hac : a = 0 ∧ c = 0 := by have := HA.out.1; have := HA.out.2; omega
      obtain ⟨rfl, rfl⟩ := hac
      have hfin : gn = 1 ∧ ov = true ∧ lk = true := by
        simp only [okL, List.mem_cons, Prod.mk.injEq, List.not_mem_nil, or_false] at hok
        rcases hok with h0 | h0 | h0 | h0 | h0 | h0 | h0 | h0 | h0 | h0 | h0 | h0 | h0 | h0 | h0 | h0 | h0 | h0 | h0 | h0 | h0 | h0 | h0 | h0 <;> (obtain ⟨rfl, rfl, rfl, rfl, rfl, rfl, rfl, rfl, rfl, rfl, e1, e2⟩ := h0; first | exact ⟨rfl, rfl, rfl⟩ | (exact absurd e1 (by decide)) | (exact absurd e2 (by decide)))
      obtain ⟨rfl, rfl, rfl⟩ := hfin
      go_wp2_with fail
      go_ret
      exact ⟨rfl, h.2.1⟩
theorem big (i : Int) (y : Option Addr) (len cap : Nat) (w : World) (h : 300 < len) : Calls Try.prog 4 #[.int .u16 i, .slice y len cap] w fun e w' => e = .returned (.bool true) ∧ Below w.heap.size w w' := by
  go_enter Try.func4, Try.ntmps4
  go_wp2_with (first | (go_at_call 18; refine (works20 _).mono ?_; rintro e w1 ⟨rfl, hb1⟩))
  go_ret
  exact ⟨rfl, hb1⟩
theorem walk (a0 : Int) (a1 : Option Addr) (len1 cap1 : Nat) (z1 : Nat → Bool) (w : World) (w0 : (Lit.int .u16 a0).wf = true) (w1 : IsBools w a1 len1 cap1 z1) :
    Calls Try.prog 4 #[.int .u16 a0, .slice a1 len1 cap1] w fun e w' => e = .returned (.bool true) ∧ Below w.heap.size w w' := by
  have h0 := bounds_u16 w0
  by_cases h : 300 < len1
  · exact big a0 a1 len1 cap1 w h
  · obtain ⟨i, rfl⟩ := Int.eq_ofNat_of_zero_le h0.1
    have t := (tPart_loop 5 i 0 (by omega) (by omega) (by omega) (by omega) (by omega) (by omega)).1
    refine core i len1 cap1 a1 z1 w (i % 3) (by omega) (by omega) (Lib.hid (by omega)) (Lib.hid (fun j hj => ?_)) (Lib.hid (by decide)) (Lib.hid (by rw [Int.tmod_eq_emod_of_nonneg (by omega)]; omega)) (Lib.hid (by omega)) (Lib.hid (by decide)) (Lib.hid (by simp)) (Lib.hid (by rw [t]; simp; omega)) (Lib.hid (by rw [t]; omega))
    rcases w1.split with h1 | ⟨b, off, rfl, hlt, hle, hm, hc⟩
    · omega
    · exact ⟨b, off, rfl, hlt, hc j (by omega)⟩
end Go.Proofs.Ytemboonjikccnab.throttleOnce
