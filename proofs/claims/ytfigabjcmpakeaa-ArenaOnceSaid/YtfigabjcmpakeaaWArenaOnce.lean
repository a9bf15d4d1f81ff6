/- No number is taken that is taken already, and never are more than most: the law ArenaOnce answers true. No condition. -/
import Derived.Test.YtfigabjcmpakeaaArG
import Derived.Test.YtfigabjcmpakeaaGrids
namespace Go.Proofs.Ytfigabjcmpakeaa.arenaOnce
open Go.ChangeShapes Go.WideShapes Go.ChangeAt Go.RowKit
open Go.Proofs.Ytfigabjcmpakeaa.ar
set_option linter.unusedVariables false
set_option linter.unusedSimpArgs false
theorem run_make_cells (P : Program) (t e : TypeId) (z : Value) (size bytes : Nat) (ht : P.underlying t = some (.slice e)) (hinfo : (P.info? e).map (fun i => (i.zero, i.size, i.bytes)) = some (some z, size, bytes))
    (kl kc : IntKind) (n : Nat) (hbytes : bytes * n ≤ 281474976710656) (h63 : n ≤ 9223372036854775807) (w : World) :
    (Instr.makeSlice t (.int kl (n : Int)) (.int kc (n : Int))).run P w = .ok (.slice (some ⟨w.heap.size, 0, none⟩) n n) (w.alloc (.cells (madeCells z.cells (n * size)) e)) := by
  obtain ⟨i, hi, hzz⟩ := Option.map_eq_some_iff.1 hinfo
  simp only [Prod.mk.injEq] at hzz
  obtain ⟨hz, hs, hb⟩ := hzz
  have hb' : (i.bytes : Int) * (n : Int) ≤ 281474976710656 := by
    have h : ((i.bytes * n : Nat) : Int) ≤ 281474976710656 := by rw [hb]; omega
    rwa [Int.natCast_mul] at h
  have hr := run_make (P := P) w t e i z ht hi hz kl kc n n (by omega) (Int.le_refl _) hb' (by omega)
  simp only [Int.toNat_natCast, hs] at hr
  exact hr
theorem made1 (w : World) (a : Value) (n t : Nat) : (w.alloc (.cells (madeCells #[a] n) t)).rowIs w.heap.size t n (fun _ => a) :=
  ⟨madeCells #[a] n, by show (w.heap.push _)[w.heap.size]? = _; rw [Array.getElem?_push_size], size_madeCells _ _, fun i hi => by simp [madeCells, hi, Nat.mod_one]⟩
theorem rowIs_cell {w : World} {B t n i : Nat} {f : Nat → Value} (h : w.rowIs B t n f) (hi : i < n) : w.cell? ⟨B, i, none⟩ = some (f i) := by
  obtain ⟨c, hb, hs, hc⟩ := h
  simp [World.cell?, hb, hc i hi]
theorem rowIs_free {w : World} {B t n : Nat} {f : Nat → Value} (h : w.rowIs B t n f) (i : Nat) : w.frozen? ⟨B, i, none⟩ = false := by
  obtain ⟨c, hb, hs, hc⟩ := h
  simp [World.frozen?, hb]
theorem rowIs_lt {w : World} {B t n : Nat} {f : Nat → Value} (h : w.rowIs B t n f) : B < w.heap.size := by
  obtain ⟨c, hb, _⟩ := h
  exact lt_heap hb
theorem same_one {H : Nat} {w w' : World} (h : Same (fun k => k = H) w w') : w'.heap[H]? = w.heap[H]? := h H rfl
/-- A store into the other row leaves the arena. -/
theorem AS_other {B A H j : Nat} {w : World} {m f p : Int} {oh ob hv bv : Value} {hs : List Bool} {bk : List Int} (v : Value) (h : AS (fun k => k = H) B A w m f p oh ob hv bv hs bk) : AS (fun k => k = H) B A (w.setCell ⟨H, j, none⟩ v) m f p oh ob hv bv hs bk := by
  have hH := h.sa H rfl
  exact ⟨by rw [set_heap w H j A v (fun e => hH.2.1 e.symm)]; exact h.obj, row_keep h.rh fun k hk => set_heap w H j k v (fun e => hH.2.2.1 (e ▸ hk)), row_keep h.rb fun k hk => set_heap w H j k v (fun e => hH.2.2.2 (e ▸ hk)), h.h1, h.h2, h.h3, h.base, fun k hk => ⟨by rw [size_set]; exact (h.sa k hk).1, (h.sa k hk).2⟩⟩
/-- The state between two steps. -/
structure St (w0 : World) (A H M : Nat) (w : World) (u : Nat) : Prop where
  ex : ∃ (hv bv : Value) (hs : List Bool) (bk : List Int) (p : Nat), AS (fun k => k = H) w0.heap.size A w (M : Int) (hs.length : Int) (p : Int) hv bv hv bv hs bk ∧ w.rowIs H 4 257 (fun q => .bool (heldB hs (q : Int))) ∧ Gd M hs bk ∧ hs.count true = u ∧ u ≤ p ∧ p ≤ M ∧ bk.length + u = hs.length
  b : Below w0.heap.size w0 w
  hH : w0.heap.size ≤ H
theorem snoc_cases (l : List Int) : l = [] ∨ ∃ l' x, l = l' ++ [x] := by
  rcases List.eq_nil_or_concat l with h | ⟨a, b, h⟩
  · exact .inl h
  · exact .inr ⟨a, b, by simpa using h⟩
theorem take_full {w0 w : World} {A H M : Nat} (h : St w0 A H M w M) (hM : M ≤ 255) : Calls Try.prog 33 #[.pointer (some ⟨A, 0, none⟩)] w fun e w' => e = .returned (.tuple #[.int .i64 0, .bool false]) ∧ St w0 A H M w' M := by
  obtain ⟨hv, bv, hs, bk, p, hA, hr, hg, hu, h1, h2, h3⟩ := h.ex
  have hb := h.b
  have hH := h.hH
  rcases snoc_cases bk with rfl | ⟨l, x, rfl⟩
  · have hl : hs.length = M := by have := List.count_le_length (a := true) (l := hs); have := hg.le; omega
    rw [hl] at hA
    refine (take_no w hA).mono ?_
    rintro e w' ⟨rfl, hA', hb'⟩
    exact ⟨rfl, ⟨hv, bv, hs, [], p, by rw [hl]; exact hA', hr.of_block (hb'.block _ (rowIs_lt hr)), hg, hu, h1, h2, h3⟩, hb.trans (hb'.mono hb.size), hH⟩
  · obtain ⟨j, _, hj, _⟩ := hg.back
    have := cnt_lt hs j hj
    have := hg.le
    omega
theorem take_free {w0 w : World} {A H M u : Nat} (h : St w0 A H M w u) (hM : M ≤ 255) (hlt : u < M) : Calls Try.prog 33 #[.pointer (some ⟨A, 0, none⟩)] w fun e w' => ∃ j : Nat, j < M ∧ e = .returned (.tuple #[.int .i64 ((j : Int) + 1), .bool true]) ∧ w'.cell? ⟨H, j + 1, none⟩ = some (.bool false) ∧ w'.frozen? ⟨H, j + 1, none⟩ = false ∧ Hid (St w0 A H M (w'.setCell ⟨H, j + 1, none⟩ (.bool true)) (u + 1)) := by
  obtain ⟨hv, bv, hs, bk, p, hA, hr, hg, hu, h1, h2, h3⟩ := h.ex
  have hb := h.b
  have hH := h.hH
  have hle := hg.le
  obtain ⟨p', hp', hp1, hp2, hp3⟩ : ∃ p' : Nat, (if (p : Int) < ((u + 1 : Nat) : Int) then ((u + 1 : Nat) : Int) else (p : Int)) = (p' : Int) ∧ u + 1 ≤ p' ∧ p' ≤ M ∧ True := by
    by_cases e : (p : Int) < ((u + 1 : Nat) : Int)
    · exact ⟨u + 1, by rw [if_pos e], by omega, by omega, trivial⟩
    · exact ⟨p, by rw [if_neg e], by omega, by omega, trivial⟩
  rcases snoc_cases bk with rfl | ⟨l, x, rfl⟩
  · have hne : hs.length ≠ M := fun e => by have := hg.full e; omega
    refine (take_yes w hs.length (hs ++ [false]) [] (p' : Int) hA (.inr ⟨rfl, by omega, rfl, rfl, rfl⟩) (by omega) (by simp) (by simp; omega) (by simp) (by rw [cnt_app, hu]; exact hp')).mono ?_
    rintro e w' ⟨hv', bv', rfl, hA', hb', hS⟩
    have hr' := hr.of_block (same_one hS)
    have hc := rowIs_cell hr' (i := hs.length + 1) (by omega)
    have hz : heldB hs ((hs.length + 1 : Nat) : Int) = false := by
      rw [heldB_nat, if_neg (by omega), List.getD_eq_getElem?_getD, List.getElem?_eq_none (by omega)]; rfl
    rw [hz] at hc
    exact ⟨hs.length, by omega, rfl, hc, rowIs_free hr' _, Lib.hid ⟨⟨hv', bv', _, [], p', AS_other _ hA', (hr'.set (hs.length + 1) (.bool true)).congr fun q _ => held_new hs q, hg.new (by omega), by rw [cnt_app, hu], hp1, hp2, by simp at h3 ⊢; omega⟩, (hb.trans hb').setCell hH _, hH⟩⟩
  · obtain ⟨j, hx, hj, hg'⟩ := hg.back
    subst hx
    have hjl : j < hs.length := (List.getElem?_eq_some_iff.1 hj).1
    simp only [List.length_append, List.length_cons, List.length_nil] at h3
    refine (take_yes w j hs l (p' : Int) hA (.inl ⟨l, rfl, rfl, rfl⟩) (by omega) (by simp; omega) (by omega) hjl (by rw [cnt_true hs j hj, hu]; exact hp')).mono ?_
    rintro e w' ⟨hv', bv', rfl, hA', hb', hS⟩
    have hr' := hr.of_block (same_one hS)
    have hc := rowIs_cell hr' (i := j + 1) (by omega)
    have hz : heldB hs ((j + 1 : Nat) : Int) = false := by
      rw [heldB_nat, if_neg (by omega), List.getD_eq_getElem?_getD, show j + 1 - 1 = j by omega, hj]; rfl
    rw [hz] at hc
    exact ⟨j, by omega, rfl, hc, rowIs_free hr' _, Lib.hid ⟨⟨hv', bv', _, l, p', AS_other _ hA', (hr'.set (j + 1) (.bool true)).congr fun q _ => held_set hs j true hjl q, hg', by rw [cnt_true hs j hj, hu], hp1, hp2, by rw [List.length_set]; omega⟩, (hb.trans hb').setCell hH _, hH⟩⟩
theorem give_st {w0 w : World} {A H M u : Nat} (n : Int) (h : St w0 A H M w u) (hM : M ≤ 255) :
    (∃ j : Nat, n = (j : Int) + 1 ∧ j < M ∧ w.cell? ⟨H, j + 1, none⟩ = some (.bool true) ∧ 0 < u ∧ Calls Try.prog 35 #[.pointer (some ⟨A, 0, none⟩), .int .i64 n] w fun e w' => e = .returned (.bool true) ∧ w'.cell? ⟨H, j + 1, none⟩ = some (.bool true) ∧ w'.frozen? ⟨H, j + 1, none⟩ = false ∧ Hid (St w0 A H M (w'.setCell ⟨H, j + 1, none⟩ (.bool false)) (u - 1))) ∨
    ((n < 1 ∨ (M : Int) < n ∨ ∃ q : Nat, n = (q : Int) ∧ 1 ≤ q ∧ q ≤ M ∧ w.cell? ⟨H, q, none⟩ = some (.bool false)) ∧ Calls Try.prog 35 #[.pointer (some ⟨A, 0, none⟩), .int .i64 n] w fun e w' => e = .returned (.bool false) ∧ w = w') := by
  obtain ⟨hv, bv, hs, bk, p, hA, hr, hg, hu, h1, h2, h3⟩ := h.ex
  have hb := h.b
  have hH := h.hH
  have hle := hg.le
  cases hn : heldB hs n
  · refine .inr ⟨?_, give_no w n hA (by omega) hn⟩
    by_cases e1 : n < 1
    · exact .inl e1
    · by_cases e2 : (M : Int) < n
      · exact .inr (.inl e2)
      · obtain ⟨q, rfl⟩ : ∃ q : Nat, n = (q : Int) := ⟨n.toNat, by omega⟩
        refine .inr (.inr ⟨q, rfl, by omega, by omega, ?_⟩)
        rw [rowIs_cell hr (by omega), hn]
  · obtain ⟨j, rfl, hj, hjl⟩ := heldB_true hn
    have hc := rowIs_cell hr (i := j + 1) (by omega)
    rw [show ((j + 1 : Nat) : Int) = (j : Int) + 1 by omega, hn] at hc
    have hcf := cnt_false hs j hj
    refine .inl ⟨j, rfl, by omega, hc, by omega, ?_⟩
    refine (give_yes w j hA (by omega) (by omega) hj).mono ?_
    rintro e w' ⟨hv', bv', rfl, hA', hb', hS⟩
    have hr' := hr.of_block (same_one hS)
    have hc' := rowIs_cell hr' (i := j + 1) (by omega)
    rw [show ((j + 1 : Nat) : Int) = (j : Int) + 1 by omega, hn] at hc'
    have hg' := hg.give hj
    have hbl : (bk ++ [(j : Int) + 1]).length + (u - 1) = (hs.set j false).length := by
      rw [List.length_set, List.length_append]; simp; omega
    exact ⟨rfl, hc', rowIs_free hr' _, Lib.hid ⟨⟨hv', bv', _, _, p, AS_other _ hA', (hr'.set (j + 1) (.bool false)).congr fun q _ => held_set hs j false hjl q, hg', by omega, by omega, h2, hbl⟩, (hb.trans hb').setCell hH _, hH⟩⟩
theorem used_st {w0 w : World} {A H M u : Nat} (h : St w0 A H M w u) (hM : M ≤ 255) : Calls Try.prog 37 #[.pointer (some ⟨A, 0, none⟩)] w fun e w' => e = .returned (.int .i64 (u : Int)) ∧ St w0 A H M w' u := by
  obtain ⟨hv, bv, hs, bk, p, hA, hr, hg, hu, h1, h2, h3⟩ := h.ex
  have hle := hg.le
  refine (used_of _ _ _ _ _ _ _ hs bk w (by omega) hA).mono ?_
  rintro e w' ⟨rfl, hb'⟩
  exact ⟨by rw [hu], ⟨hv, bv, hs, bk, p, hA.below hb', hr.of_block (hb'.block _ (rowIs_lt hr)), hg, hu, h1, h2, h3⟩, h.b.trans (hb'.mono h.b.size), h.hH⟩
theorem peak_st {w0 w : World} {A H M u : Nat} (h : St w0 A H M w u) : ∃ p : Nat, u ≤ p ∧ p ≤ M ∧ Calls Try.prog 38 #[.pointer (some ⟨A, 0, none⟩)] w fun e w' => e = .returned (.int .i64 (p : Int)) ∧ w = w' := by
  obtain ⟨hv, bv, hs, bk, p, hA, hr, hg, hu, h1, h2, h3⟩ := h.ex
  exact ⟨p, h1, h2, peak_of w hA⟩
theorem AS_ext {B A H : Nat} {w w' : World} {m f p : Int} {oh ob hv bv : Value} {hs : List Bool} {bk : List Int} (h : AS (fun _ => False) B A w m f p oh ob hv bv hs bk) (hb : Below w.heap.size w w') (h1 : w.heap.size ≤ H) (h2 : H < w'.heap.size) : AS (fun k => k = H) B A w' m f p oh ob hv bv hs bk := by
  have h' := h.below hb
  have hA := h.lt
  refine ⟨h'.obj, h'.rh, h'.rb, h'.h1, h'.h2, h'.h3, h'.base, fun k hk => ?_⟩
  subst hk
  exact ⟨h2, by omega, fun e => by have := (h.rh.lt _ e).2; omega, fun e => by have := (h.rb.lt _ e).2; omega⟩
theorem St.eq {w0 w w' : World} {A H M u : Nat} (h : St w0 A H M w u) (e : w = w') : St w0 A H M w' u := e ▸ h
set_option maxRecDepth 20000 in
set_option maxHeartbeats 4000000 in
theorem core (M : Nat) (b off len cap : Nat) (Z : Nat → Nat → Int) (w : World) (hM : M ≤ 255) (hl : len ≤ 300) (o : Option Addr) (hz : Hid (∀ i, i < len → o = some ⟨b, off, none⟩ ∧ b < w.heap.size ∧ w.cell? ⟨b, off + i * 2, none⟩ = some (.int .i64 (Z i 0)) ∧ w.cell? ⟨b, off + i * 2 + 1, none⟩ = some (.int .i64 (Z i 1)))) :
    Calls Try.prog 9 #[.int .u8 (M : Int), .slice o len cap] w fun e w' => e = .returned (.bool true) ∧ Below w.heap.size w w' := by
  have hd1 : IntKind.i64.wrap (M : Int) = (M : Int) := by rw [IntKind.wrap_i64]; omega
  have hd2 : ¬ (300 : Int) < (len : Int) := by omega
  have hmk : ∀ w, (Instr.makeSlice 69 (.int .i64 257) (.int .i64 257)).run Try.prog w = .ok (.slice (some ⟨w.heap.size, 0, none⟩) 257 257) (w.alloc (.cells (madeCells #[.bool false] 257) 4)) := fun w => run_make_cells Try.prog 69 4 (.bool false) 1 1 Try.underlying69 (by kernel_rfl) .i64 .i64 257 (by omega) (by omega) w
  go_enter Try.func9, Try.ntmps9
  go_wp2_with fail
  refine (works10 _).mono ?_
  rintro e w1 ⟨rfl, hb1⟩
  go_wp2_with fail
  refine (new_of (fun _ => False) w.heap.size (M : Int) (M : Int) (M : Int) _ (by rw [if_neg (by omega)]) (by rw [if_neg (by omega)]) hb1.size (fun _ h => h.elim)).mono ?_
  rintro e w2 ⟨rfl, hA, hb2⟩
  obtain ⟨A, hAe⟩ : ∃ A, A = w1.heap.size := ⟨_, rfl⟩
  rw [← hAe] at hA ⊢
  have hbw2 : Below w.heap.size w w2 := hb1.trans (hb2.mono hb1.size)
  have hnb : Below w2.heap.size w2 (w2.alloc (.cells (madeCells #[.bool false] 257) 4)) := by go_grown
  have hst : St w A w2.heap.size M (w2.alloc (.cells (madeCells #[.bool false] 257) 4)) 0 :=
    ⟨⟨_, _, [], [], 0, by simpa using AS_ext hA hnb (Nat.le_refl _) (by simp), (made1 w2 (.bool false) 257 4).congr fun q _ => by simp [heldB], Gd.nil M, rfl, by omega, by omega, rfl⟩, hbw2.trans (hnb.mono hbw2.size), hbw2.size⟩
  have HST := Lib.hid hst
  clear hA hb1 hb2 hAe hst hnb hbw2
  go_wp2_with fail
  clear hmk
  generalize w2.heap.size = H at *
  generalize w2.alloc (.cells (madeCells #[.bool false] 257) 4) = W at *
  go_loopw [7, 8] (fun u i wr => ∃ (k n : Nat), k ≤ len ∧ i = .int .i64 (k : Int) ∧ u = .int .i64 (n : Int) ∧ n ≤ M ∧ Hid (St w A H M wr n)) (fun _ i _ => len - (intOf i).toNat)
  case atStart => exact ⟨0, 0, by omega, rfl, rfl, by omega, HST⟩
  case round =>
    obtain ⟨k, n, hk, rfl, rfl, hn, hst⟩ := hrel
    clear HST
    by_cases hlt : k < len
    · obtain ⟨rfl, hbl, z0, z1⟩ := hz.out k hlt
      replace z0 := (hst.out.b.cell (p := ⟨b, off + k * 2, none⟩) hbl).trans z0
      replace z1 := (hst.out.b.cell (p := ⟨b, off + k * 2 + 1, none⟩) hbl).trans z1
      generalize Z k 0 = x at z0
      generalize Z k 1 = y at z1
      by_cases hx : x < 3
      · by_cases hu : n < M
        · have C := Lib.hid (take_free hst.out hM hu)
          have hu2 : (n : Int) < (M : Int) := by omega
          have hu3 : decide ((n : Int) < (M : Int)) = true := by simp; omega
          clear hst z1
          go_wp2_with fail
          refine C.out.mono ?_
          rintro e w3 ⟨j, hj, rfl, hc, hf, hS⟩
          have q1 : ¬ (j : Int) + 1 < 1 := by omega
          have q2 : ¬ (M : Int) < (j : Int) + 1 := by omega
          have q3 : (0 : Int) ≤ (j : Int) + 1 := by omega
          have q4 : (j : Int) + 1 < 257 := by omega
          have q5 : ((j : Int) + 1).toNat = j + 1 := by omega
          clear z0 C
          go_wp2_with fail
          go_roundw
          case rel => exact ⟨k + 1, n + 1, by omega, by go_num, by go_num, by omega, hS⟩
          case measure => simp [intOf]; omega
        · obtain rfl : n = M := by omega
          have C := Lib.hid (take_full hst.out hM)
          have hu2 : ¬ (n : Int) < (n : Int) := by omega
          clear hst z1
          go_wp2_with fail
          refine C.out.mono ?_
          rintro e w3 ⟨rfl, hS⟩
          have HS := Lib.hid hS
          clear z0 C hS
          go_wp2_with fail
          go_roundw
          case rel => exact ⟨k + 1, n, by omega, by go_num, rfl, by omega, HS⟩
          case measure => simp [intOf]; omega
      · rcases give_st y hst.out hM with ⟨j, rfl, hj, hc, hn0, C0⟩ | ⟨hcase, C0⟩
        · have C := Lib.hid C0
          have q1 : (1 : Int) ≤ (j : Int) + 1 := by omega
          have q2 : (j : Int) + 1 ≤ (M : Int) := by omega
          have q3 : (0 : Int) ≤ (j : Int) + 1 := by omega
          have q4 : (j : Int) + 1 < 257 := by omega
          have q5 : ((j : Int) + 1).toNat = j + 1 := by omega
          clear hst C0
          go_wp2_with fail
          refine C.out.mono ?_
          rintro e w3 ⟨rfl, hc', hf, hS⟩
          clear z0 z1 C hc
          go_wp2_with fail
          go_roundw
          case rel => exact ⟨k + 1, n - 1, by omega, by go_num, by go_num, by omega, hS⟩
          case measure => simp [intOf]; omega
        · have C := Lib.hid C0
          clear C0
          rcases hcase with h | h | ⟨q, rfl, h1, h2, hc⟩
          · have q1 : ¬ (1 : Int) ≤ y := by omega
            go_wp2_with (go_at_call 35; refine C.out.mono ?_; rintro e w' ⟨rfl, rfl⟩)
            go_roundw
            case rel => exact ⟨k + 1, n, by omega, by go_num, rfl, by omega, hst⟩
            case measure => simp [intOf]; omega
          · have q1 : (1 : Int) ≤ y := by omega
            have q2 : ¬ y ≤ (M : Int) := by omega
            go_wp2_with (go_at_call 35; refine C.out.mono ?_; rintro e w' ⟨rfl, rfl⟩)
            go_roundw
            case rel => exact ⟨k + 1, n, by omega, by go_num, rfl, by omega, hst⟩
            case measure => simp [intOf]; omega
          · have q1 : (1 : Int) ≤ (q : Int) := by omega
            have q2 : (q : Int) ≤ (M : Int) := by omega
            have q3 : (0 : Int) ≤ (q : Int) := by omega
            have q4 : (q : Int) < 257 := by omega
            have q5 : (q : Int).toNat = q := by omega
            go_wp2_with (go_at_call 35; refine C.out.mono ?_; rintro e w' ⟨rfl, rfl⟩)
            go_roundw
            case rel => exact ⟨k + 1, n, by omega, by go_num, rfl, by omega, hst⟩
            case measure => simp [intOf]; omega
    · obtain rfl : k = len := by omega
      clear hz
      go_wp2_with fail
      refine (used_st hst.out hM).mono ?_
      rintro e w3 ⟨rfl, hS⟩
      obtain ⟨p, hp1, hp2, C0⟩ := peak_st hS
      have C := Lib.hid C0
      have hb := hS.b
      have q1 : (n : Int) ≤ (p : Int) := by omega
      have q2 : (p : Int) ≤ (M : Int) := by omega
      clear hst hS C0
      go_wp2_with (go_at_call 38; refine C.out.mono ?_; rintro e w' ⟨rfl, rfl⟩)
      go_ret
      exact ⟨rfl, hb⟩
theorem big (M : Int) (len cap : Nat) (w : World) (hl : 300 < len) (o : Option Addr) :
    Calls Try.prog 9 #[.int .u8 M, .slice o len cap] w fun e w' => e = .returned (.bool true) ∧ Below w.heap.size w w' := by
  have hd2 : (300 : Int) < (len : Int) := by omega
  go_enter Try.func9, Try.ntmps9
  go_wp2_with fail
  refine (works10 _).mono ?_
  rintro e w1 ⟨rfl, hb1⟩
  go_wp2_with fail
  go_ret
  exact ⟨rfl, hb1⟩
theorem walk (a0 : Int) (a1 : Option Addr) (len1 cap1 : Nat) (z1 : Nat → Nat → Int) (w : World) (w0 : (Lit.int .u8 a0).wf = true) (w1 : IsGrid [.i64, .i64] w a1 len1 cap1 z1) :
    Calls Try.prog 9 #[.int .u8 a0, .slice a1 len1 cap1] w fun e w' => e = .returned (.bool true) ∧ Below w.heap.size w w' := by
  have h0 := bounds_u8 w0
  obtain ⟨M, rfl⟩ : ∃ M : Nat, a0 = (M : Int) := ⟨a0.toNat, by omega⟩
  by_cases hl : 300 < len1
  · exact big _ len1 cap1 w hl a1
  · rcases w1.split (by decide) with h | ⟨b, off, rfl, hlt, hle, hm, hc⟩
    · exact core M 0 0 len1 cap1 z1 w (by omega) (by omega) a1 (Lib.hid fun i hi => by omega)
    · refine core M b off len1 cap1 z1 w (by omega) (by omega) _ (Lib.hid fun i hi => ⟨rfl, hlt, ?_, ?_⟩)
      · exact (hc i (by omega) 0 .i64 rfl).1
      · exact (hc i (by omega) 1 .i64 rfl).1
end Go.Proofs.Ytfigabjcmpakeaa.arenaOnce
