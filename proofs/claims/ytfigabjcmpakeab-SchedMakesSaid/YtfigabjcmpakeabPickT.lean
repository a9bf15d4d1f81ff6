/- Turns: each worker once in each block: whose pick the i-th one is, and all of them (layer 36). -/
import Derived.Test.YtfigabjcmpakeabPickR
import Derived.Deep.QuietTactic
import Derived.Lib.PathFns
namespace Go.Proofs.Ytfigabjcmpakeab
open Go.ChangeShapes Go.WideShapes Go.ChangeAt Go.RowKit
open Go.Proofs.Ytfigabjcmpakeab.sch
set_option linter.unusedVariables false
set_option linter.unusedSimpArgs false
def ob (s : ByteArray) (q : Nat) : Nat := if s.size = 0 then 0 else (s.data.getD (q % s.size) 0).toNat
theorem ob_lt (s : ByteArray) (q : Nat) : ob s q ≤ 255 := by
  unfold ob
  split
  · omega
  · have := (s.data.getD (q % s.size) 0).toNat_lt; omega
def tp (s : ByteArray) (n i : Nat) : PK := ((tn (ob s) n i : Nat), ((ob s (i / n) % n : Nat) : Int))
set_option maxRecDepth 20000 in
set_option maxHeartbeats 1000000 in
theorem turn_tail (i n b f0_ : Nat) (A C : Nat) (s : ByteArray) (w : World) (hA : w.cell? ⟨A, 0, none⟩ = some (.string s)) (hC : w.cell? ⟨C, 0, none⟩ = some (.int .i64 (n : Int))) (hn : 1 ≤ n) (hn2 : n ≤ 64) (hi : i ≤ 1048576) (hb : ob s (i / n) = b) :
    Calls Try.prog 85 #[.int .i64 (i : Int), .pointer (some ⟨A, 0, none⟩), .pointer (some ⟨C, 0, none⟩)] w fun e w' => e = .returned (.agg #[.int .i64 (tn (ob s) n i : Nat), .int .i64 ((b % n : Nat) : Int)]) ∧ Below w.heap.size w w' := by
  have hb2 := ob_lt s (i / n)
  rw [hb] at hb2
  have la := World.block_lt_of_cell? w _ hA
  have lc := World.block_lt_of_cell? w _ hC
  have hd0 : ((n : Int) == 0) = false := by simp; omega
  have hd1 : ¬ (n : Int) = 0 := by omega
  have hd2 : ¬ n = 0 := by omega
  obtain ⟨q, hq⟩ : ∃ q, i / n = q := ⟨_, rfl⟩
  obtain ⟨t, ht⟩ : ∃ t, i % n = t := ⟨_, rfl⟩
  have htn : t < n := by rw [← ht]; exact Nat.mod_lt _ (by omega)
  obtain ⟨f, hf⟩ : ∃ f, b % n = f := ⟨_, rfl⟩
  have hfn : f < n := by rw [← hf]; exact Nat.mod_lt _ (by omega)
  have v1 : (i : Int).tdiv (n : Int) = (q : Int) := by rw [Int.tdiv_eq_ediv_of_nonneg (by omega), ← hq]; push_cast; rfl
  have v2 : (i : Int).tmod (n : Int) = (t : Int) := by rw [Int.tmod_eq_emod_of_nonneg (by omega), ← ht]; push_cast; rfl
  have v3 : (b : Int).tmod (n : Int) = (f : Int) := by rw [Int.tmod_eq_emod_of_nonneg (by omega), ← hf]; push_cast; rfl
  have hT : Hid (tn (ob s) n i = if 128 ≤ b then (f + (n - t)) % n else (f + t) % n) := Lib.hid (by unfold tn; rw [hb, hf, ht])
  obtain ⟨r, hr⟩ : ∃ r, tn (ob s) n i = r := ⟨_, rfl⟩
  rw [hr] at hT ⊢
  clear hr ht
  have HB := Lib.hid hb
  have HQ := Lib.hid hq
  have HF := Lib.hid hf
  clear hb hq hf
  by_cases hs : s.size = 0
  · have he : s.toList.isEmpty = true := by rw [Lib.toList_data, List.eq_nil_of_length_eq_zero (show s.data.toList.length = 0 from hs)]; rfl
    have hb0 : b = 0 := by rw [← HB.out]; unfold ob; rw [if_pos hs]
    subst hb0
    have v4 : (0 : Int).tmod (n : Int) = (f : Int) := v3
    rw [HF.out]
    go_enter Try.func85, Try.ntmps85
    go_wp2_with fail
    obtain ⟨W, hW⟩ : ∃ W, W = w.alloc (Obj.cells #[Value.int .i64 0, .int .i64 0] 90) := ⟨_, rfl⟩
    have hbw : Below w.heap.size w W := by rw [hW]; go_grown
    have hWh : W.heap[w.heap.size]? = some (.cells #[Value.int .i64 0, .int .i64 0] 90 (0, 0)) := by rw [hW]; exact heap_alloc_new _ _
    have f0 : W.frozen? ⟨w.heap.size, 0, none⟩ = false := by simp [World.frozen?, hWh]
    have f1 : W.frozen? ⟨w.heap.size, 1, none⟩ = false := by simp [World.frozen?, hWh]
    have g0 : W.cell? ⟨w.heap.size, 0, none⟩ = some (.int .i64 0) := by simp [World.cell?, hWh]
    have g1 : W.cell? ⟨w.heap.size, 1, none⟩ = some (.int .i64 0) := by simp [World.cell?, hWh]
    have cA : W.cell? ⟨A, 0, none⟩ = some (.string s) := (hbw.cell (p := ⟨A, 0, none⟩) la).trans hA
    have cC : W.cell? ⟨C, 0, none⟩ = some (.int .i64 (n : Int)) := (hbw.cell (p := ⟨C, 0, none⟩) lc).trans hC
    rw [← hW]
    clear hW hA hC
    go_quiet (fail)
    have HRV : ((f : Int) + (t : Int)) % (n : Int) = (r : Int) := by rw [hT.out, if_neg (by omega)]; push_cast; rfl
    have hrv : ((f : Int) + (t : Int)) % (n : Int) = (r : Int) := HRV
    have hrv2 : ((f : Int) + (t : Int)).tmod (n : Int) = (r : Int) := by rw [Int.tmod_eq_emod_of_nonneg (by omega)]; exact hrv
    have hsz : w.heap.size < W.heap.size := World.block_lt_of_cell? W _ g0
    go_wp2_with fail
    refine bodyPost_ret (v := .agg #[.int .i64 (r : Int), .int .i64 (f : Int)]) ?_ rfl ⟨rfl, ((hbw.trans (show Below w.heap.size W (W.drewN _) from ⟨rfl, rfl, rfl, Nat.le_refl _, fun _ _ => rfl⟩)).setCell (Nat.le_refl _) _).setCell (Nat.le_refl _) _⟩
    simp [results, Try.results85, go_sem, hWh, g0, g1]
  · obtain ⟨sz, hsz0⟩ : ∃ sz, s.size = sz := ⟨_, rfl⟩
    have he : s.toList.isEmpty = false := by
      rw [Lib.toList_data]
      cases hl : s.data.toList with
      | nil => exact absurd (show s.data.toList.length = 0 by rw [hl]; rfl) (by show ¬ s.size = 0; exact hs)
      | cons x l => rfl
    rw [hsz0] at hs
    obtain ⟨g, hg⟩ : ∃ g, q % sz = g := ⟨_, rfl⟩
    have hgs : g < sz := by rw [← hg]; exact Nat.mod_lt _ (by omega)
    have v4 : (q : Int).tmod (sz : Int) = (g : Int) := by rw [Int.tmod_eq_emod_of_nonneg (by omega), ← hg]; push_cast; rfl
    have hgs2 : g < s.size := by omega
    have hbv : (s[g].toNat : Nat) = b := by
      rw [← HB.out]
      unfold ob
      rw [if_neg (by omega), HQ.out, hsz0, hg]
      have h2 : g < s.data.size := hgs2
      simp only [Array.getD, dif_pos h2]
      rfl
    have hbw2 : IntKind.i64.wrap ((s[g].toNat : Nat) : Int) = (b : Int) := by rw [hbv, IntKind.wrap_i64]; omega
    have hk0 : ((sz : Int) == 0) = false := by simp; omega
    have hk1 : ¬ (sz : Int) = 0 := by omega
    have hk2 : ¬ sz = 0 := by omega
    have hk3 : (0 : Int) ≤ (g : Int) := by omega
    have hk4 : (g : Int) < (sz : Int) := by omega
    have hk5 : (g : Int).toNat = g := by omega
    have hqi : q ≤ i := by rw [← HQ.out]; exact Nat.div_le_self _ _
    have hwq : IntKind.i64.wrap (q : Int) = (q : Int) := by rw [IntKind.wrap_i64]; omega
    have HBV := Lib.hid hbv
    clear hbv hg
    rw [HF.out]
    go_enter Try.func85, Try.ntmps85
    go_wp2_with fail
    obtain ⟨W, hW⟩ : ∃ W, W = w.alloc (Obj.cells #[Value.int .i64 0, .int .i64 0] 90) := ⟨_, rfl⟩
    have hbw : Below w.heap.size w W := by rw [hW]; go_grown
    have hWh : W.heap[w.heap.size]? = some (.cells #[Value.int .i64 0, .int .i64 0] 90 (0, 0)) := by rw [hW]; exact heap_alloc_new _ _
    have f0 : W.frozen? ⟨w.heap.size, 0, none⟩ = false := by simp [World.frozen?, hWh]
    have f1 : W.frozen? ⟨w.heap.size, 1, none⟩ = false := by simp [World.frozen?, hWh]
    have g0 : W.cell? ⟨w.heap.size, 0, none⟩ = some (.int .i64 0) := by simp [World.cell?, hWh]
    have g1 : W.cell? ⟨w.heap.size, 1, none⟩ = some (.int .i64 0) := by simp [World.cell?, hWh]
    have cA : W.cell? ⟨A, 0, none⟩ = some (.string s) := (hbw.cell (p := ⟨A, 0, none⟩) la).trans hA
    have cC : W.cell? ⟨C, 0, none⟩ = some (.int .i64 (n : Int)) := (hbw.cell (p := ⟨C, 0, none⟩) lc).trans hC
    rw [← hW]
    clear hW hA hC
    go_quiet (fail)
    obtain ⟨W2, hW2⟩ : ∃ W2, W2 = W.drewN nq := ⟨_, rfl⟩
    have hbW2 : Below w.heap.size w W2 := by rw [hW2]; exact hbw.trans ⟨rfl, rfl, rfl, Nat.le_refl _, fun _ _ => rfl⟩
    have q1 : W2.heap[w.heap.size]? = some (.cells #[Value.int .i64 0, .int .i64 0] 90 (0, 0)) := by rw [hW2]; exact hWh
    have q2 : W2.frozen? ⟨w.heap.size, 0, none⟩ = false := by rw [hW2]; exact f0
    have q3 : W2.frozen? ⟨w.heap.size, 1, none⟩ = false := by rw [hW2]; exact f1
    have q4 : W2.cell? ⟨w.heap.size, 0, none⟩ = some (.int .i64 0) := by rw [hW2]; exact g0
    have q5 : W2.cell? ⟨w.heap.size, 1, none⟩ = some (.int .i64 0) := by rw [hW2]; exact g1
    have q6 : W2.cell? ⟨A, 0, none⟩ = some (.string s) := by rw [hW2]; exact cA
    have q7 : W2.cell? ⟨C, 0, none⟩ = some (.int .i64 (n : Int)) := by rw [hW2]; exact cC
    rw [← hW2]
    clear hW2 hbw hWh f0 f1 g0 g1 cA cC
    have hbw := hbW2
    have hWh := q1
    have f0 := q2
    have f1 := q3
    have g0 := q4
    have g1 := q5
    go_wp2_with fail
    go_quiet (fail)
    by_cases hb8 : 128 ≤ b
    · have hb9 : (128 : Int) ≤ (b : Int) := by omega
      have HRV : ((f : Int) + ((n : Int) - (t : Int))) % (n : Int) = (r : Int) := by rw [hT.out, if_pos hb8, show (f : Int) + ((n : Int) - (t : Int)) = ((f + (n - t) : Nat) : Int) by omega]; push_cast; rfl
      have hrv : ((f : Int) + ((n : Int) - (t : Int))) % (n : Int) = (r : Int) := HRV
      have hrv2 : ((f : Int) + ((n : Int) - (t : Int))).tmod (n : Int) = (r : Int) := by rw [Int.tmod_eq_emod_of_nonneg (by omega)]; exact hrv
      have hsz : w.heap.size < W2.heap.size := World.block_lt_of_cell? W2 _ g0
      go_wp2_with fail
      refine bodyPost_ret (v := .agg #[.int .i64 (r : Int), .int .i64 (f : Int)]) ?_ rfl ⟨rfl, ((hbw.trans (show Below w.heap.size W2 (W2.drewN _) from ⟨rfl, rfl, rfl, Nat.le_refl _, fun _ _ => rfl⟩)).setCell (Nat.le_refl _) _).setCell (Nat.le_refl _) _⟩
      simp [results, Try.results85, go_sem, hWh, g0, g1]
    · have hb9 : ¬ (128 : Int) ≤ (b : Int) := by omega
      have HRV : ((f : Int) + (t : Int)) % (n : Int) = (r : Int) := by rw [hT.out, if_neg hb8]; push_cast; rfl
      have hrv : ((f : Int) + (t : Int)) % (n : Int) = (r : Int) := HRV
      have hrv2 : ((f : Int) + (t : Int)).tmod (n : Int) = (r : Int) := by rw [Int.tmod_eq_emod_of_nonneg (by omega)]; exact hrv
      have hsz : w.heap.size < W2.heap.size := World.block_lt_of_cell? W2 _ g0
      go_wp2_with fail
      refine bodyPost_ret (v := .agg #[.int .i64 (r : Int), .int .i64 (f : Int)]) ?_ rfl ⟨rfl, ((hbw.trans (show Below w.heap.size W2 (W2.drewN _) from ⟨rfl, rfl, rfl, Nat.le_refl _, fun _ _ => rfl⟩)).setCell (Nat.le_refl _) _).setCell (Nat.le_refl _) _⟩
      simp [results, Try.results85, go_sem, hWh, g0, g1]
def tpv (s : ByteArray) (n k j : Nat) : Value := if j < k * 2 then (if j % 2 = 0 then .int .i64 (tn (ob s) n (j / 2) : Nat) else .int .i64 ((ob s (j / 2 / n) % n : Nat) : Int)) else .int .i64 0
theorem tpv_step (s : ByteArray) (n k j : Nat) : (if j = k * 2 + 1 then Value.int .i64 ((ob s (k / n) % n : Nat) : Int) else if j = k * 2 then .int .i64 (tn (ob s) n k : Nat) else tpv s n k j) = tpv s n (k + 1) j := by
  unfold tpv
  by_cases h1 : j = k * 2 + 1
  · subst h1; rw [if_pos rfl, if_pos (by omega), if_neg (by omega), show (k * 2 + 1) / 2 = k from by omega]
  · rw [if_neg h1]
    by_cases h2 : j = k * 2
    · subst h2; rw [if_pos rfl, if_pos (by omega), if_pos (by omega), show k * 2 / 2 = k from by omega]
    · rw [if_neg h2]
      by_cases h3 : j < k * 2
      · rw [if_pos h3, if_pos (show j < (k + 1) * 2 by omega)]
      · rw [if_neg h3, if_neg (show ¬ j < (k + 1) * 2 by omega)]
theorem picks_turns (st m1 : Int) (L n : Nat) (s : ByteArray) (A C : Nat) (w : World) (h1 : (if st < 0 then (0 : Int) else st) = m1) (h2 : (if 1048576 < m1 then (1048576 : Int) else m1) = L) (hL : L ≤ 1048576) (hA : w.cell? ⟨A, 0, none⟩ = some (.string s)) (hC : w.cell? ⟨C, 0, none⟩ = some (.int .i64 (n : Int))) (hn : 1 ≤ n) (hn2 : n ≤ 64) :
    Calls Try.prog 83 #[.int .i64 st, .func (.func 85) #[] #[.pointer (some ⟨A, 0, none⟩), .pointer (some ⟨C, 0, none⟩)]] w fun e w' => e = .returned (.slice (some ⟨w.heap.size, 0, none⟩) L L) ∧ w'.rowIs w.heap.size 90 (L * 2) (tpv s n L) ∧ Below w.heap.size w w' := by
  have hmk := run_make_cells Try.prog 87 90 (.agg #[.int .i64 0, .int .i64 0]) 2 16 Try.underlying87 (by kernel_rfl) .i64 .i64 L (by omega) (by omega)
  have la := World.block_lt_of_cell? w _ hA
  have lc := World.block_lt_of_cell? w _ hC
  have HA := Lib.hid hA
  have HC := Lib.hid hC
  clear hA hC
  go_enter Try.func83, Try.ntmps83
  go_wp2_with fail
  obtain ⟨W, hW⟩ : ∃ W, W = w.alloc (Obj.cells (madeCells #[Value.int .i64 0, Value.int .i64 0] (L * 2)) 90) := ⟨_, rfl⟩
  have hb : Below w.heap.size w W := by rw [hW]; go_grown
  have hr : W.rowIs w.heap.size 90 (L * 2) (tpv s n 0) := by
    rw [hW]
    exact (made2 w (.int .i64 0) (L * 2) 90).congr fun i hi => by simp [tpv]
  rw [← hW]
  clear hW hmk h1 h2
  go_loopw [13] (fun i wr => ∃ k : Nat, k ≤ L ∧ i = .int .i64 k ∧ Below w.heap.size w wr ∧ wr.rowIs w.heap.size 90 (L * 2) (tpv s n k)) (fun i _ => L - (intOf i).toNat)
  case atStart => exact ⟨0, Nat.zero_le _, rfl, hb, hr⟩
  case round =>
    clear hb hr
    obtain ⟨k, hk, rfl, hbw, hr⟩ := hrel
    by_cases hlt : k < L
    · have cA := (hbw.cell (p := ⟨A, 0, none⟩) la).trans HA.out
      have cC := (hbw.cell (p := ⟨C, 0, none⟩) lc).trans HC.out
      have R := Lib.hid hr
      have hlw := hr.lt
      clear hr
      go_wp2_with fail
      refine (turn_tail k n _ 0 A C s _ cA cC hn hn2 (by omega) rfl).mono ?_
      rintro e w1 ⟨rfl, hb1⟩
      have hr1 := R.out.of_block (hb1.block _ hlw)
      have l0 : k * 2 < L * 2 := by omega
      have l1 : k * 2 + 1 < L * 2 := by omega
      have c0 := rowIs_cell hr1 l0
      have c1 := rowIs_cell hr1 l1
      have z0 := rowIs_free hr1 (k * 2)
      have z1 := rowIs_free hr1 (k * 2 + 1)
      have hbz : Below w.heap.size w w1 := hbw.trans (hb1.mono hbw.size)
      have HST := Lib.hid (fun j => tpv_step s n k j)
      have HR1 := Lib.hid hr1
      generalize tn (ob s) n k = x at *
      generalize ob s (k / n) % n = y at *
      clear cA cC hb1 hlw hr1
      go_wp2_with fail
      go_roundw
      case rel =>
        refine ⟨k + 1, by omega, by go_num, (hbz.setCell (Nat.le_refl _) _).setCell (Nat.le_refl _) _, ((HR1.out.set (k * 2) (.int .i64 (x : Int))).set (k * 2 + 1) (.int .i64 (y : Int))).congr fun j hj => ?_⟩
        exact HST.out j
      case measure => simp [intOf]; omega
    · obtain rfl : k = L := by omega
      go_wp2_with fail
      go_ret
      exact ⟨rfl, hr, hbw⟩
theorem turns_of (wk0 m0 st m1 : Int) (L n : Nat) (s : ByteArray) (w : World) (a1 : (if wk0 < 1 then (1 : Int) else wk0) = m0) (a2 : (if 64 < m0 then (64 : Int) else m0) = (n : Int)) (h1 : (if st < 0 then (0 : Int) else st) = m1) (h2 : (if 1048576 < m1 then (1048576 : Int) else m1) = L) (hL : L ≤ 1048576) :
    Calls Try.prog 54 #[.int .i64 wk0, .int .i64 st, .string s] w fun e w' => ∃ B, e = .returned (.slice (some ⟨B, 0, none⟩) L L) ∧ w'.rowIs B 90 (L * 2) (tpv s n L) ∧ Below w.heap.size w w' ∧ w.heap.size ≤ B := by
  have hmf : ∀ (fn : Fn) (first cap : Array Value) (w : World), (Instr.makeFunc fn first cap).run Try.prog w = .ok (.func fn first cap) w := fun _ _ _ _ => rfl
  have hn : 1 ≤ n := by split at a1 <;> split at a2 <;> omega
  have hn2 : n ≤ 64 := by split at a1 <;> split at a2 <;> omega
  have C1 := fun w => held_of wk0 m0 n w a1 a2
  clear a1 a2
  have H1 := Lib.hid h1
  have H2 := Lib.hid h2
  clear h1 h2
  go_enter Try.func54, Try.ntmps54
  go_wp2_with (first | (go_at_call 82; refine (C1 _).mono ?_; rintro e w' ⟨rfl, rfl⟩))
  refine (picks_turns st m1 L n s (w.heap.size + 1) w.heap.size _ H1.out H2.out hL (by go_simp) (by go_simp) hn hn2).mono ?_
  rintro e w1 ⟨rfl, hr, hb1⟩
  have hb2 : Below w.heap.size w w1 := btr2 (by go_grown) hb1
  go_wp2_with fail
  go_ret
  exact ⟨_, rfl, by simpa using hr, hb2, by omega⟩
theorem turns_pv {w : World} {B L n : Nat} {s : ByteArray} (hr : w.rowIs B 90 (L * 2) (tpv s n L)) : PV w (some ⟨B, 0, none⟩) L L ((List.range L).map fun i => (((tn (ob s) n i : Nat) : Int), ((ob s (i / n) % n : Nat) : Int))) :=
  PV.of_row hr (by simp) fun i p hp => by
    have hi := (List.getElem?_eq_some_iff.1 hp).1
    simp at hi
    simp [hi] at hp
    subst hp
    unfold tpv
    rw [if_pos (by omega), if_pos (by omega), if_pos (by omega), if_neg (by omega), show i * 2 / 2 = i by omega, show (i * 2 + 1) / 2 = i by omega]
    exact ⟨rfl, rfl⟩
theorem cn_step (o : Nat → Nat) (k q j c : Nat) (hq : o k = q) (hc : cn o k q = c) : (if j = q then Value.int .i64 ((c : Int) + 1) else .int .i64 (cn o k j : Nat)) = .int .i64 (cn o (k + 1) j : Nat) := by
  subst hq
  by_cases e : j = o k
  · subst e; rw [if_pos rfl, cn, if_pos rfl, hc]; push_cast; rfl
  · rw [if_neg e, cn, if_neg (fun h => e h.symm)]; rfl
end Go.Proofs.Ytfigabjcmpakeab
