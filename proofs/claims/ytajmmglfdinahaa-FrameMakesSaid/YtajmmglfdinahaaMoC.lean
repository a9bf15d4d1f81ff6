/- A deque in one piece: all that is in it; whether two hold the same (layer 14). -/
import Derived.Test.YtajmmglfdinahaaMoB
import Derived.Handy
import Derived.Defers
import Derived.Recover
import Derived.Tactics2
import Derived.Deep.RegionHeld3
import Derived.Deep.DrawnRows
namespace Go.Proofs.Ytajmmglfdinahaa.mo
open Go.ChangeShapes Go.WideShapes Go.ChangeAt Go.RowKit
set_option linter.unusedVariables false
set_option linter.unusedSimpArgs false
theorem eq_fn (f : Fn) (a b : Array Value) (w : World) : Sem.run Try.prog (binOp .eql 92 (.func f a b) .nilFunc) w = .ok (.bool false) w := by kernel_rfl
theorem eq_fy (f : Fn) (a b : Array Value) (w : World) : Sem.run Try.prog (binOp .eql 32 (.func f a b) .nilFunc) w = .ok (.bool false) w := by kernel_rfl
/-- The variable of a list (block V), whose row lies from B on. -/
structure WL (w : World) (V B : Nat) (v : Value) (xs : List Int) : Prop where
  c : w.heap[V]? = some (.cells #[v] 34 (0, 0))
  r : OI w B v xs
  lt : V < B
  le : B ≤ w.heap.size
def KV (V B : Nat) (w w' : World) : Prop := w.heap.size ≤ w'.heap.size ∧ ∀ k, k < B → k ≠ V → w'.heap[k]? = w.heap[k]?
theorem KV.refl (V B : Nat) (w : World) : KV V B w w := ⟨Nat.le_refl _, fun _ _ _ => rfl⟩
theorem KV.trans {V B : Nat} {w w1 w2 : World} (h : KV V B w w1) (h' : KV V B w1 w2) : KV V B w w2 := ⟨Nat.le_trans h.1 h'.1, fun k hk hV => (h'.2 k hk hV).trans (h.2 k hk hV)⟩
set_option maxRecDepth 20000 in
theorem each_of (V B : Nat) (v : Value) (xs : List Int) (x : Int) (w : World) (h : WL w V B v xs) (hl : xs.length ≤ 2000) :
    Calls Try.prog 64 #[.int .i64 x, .pointer (some ⟨V, 0, none⟩)] w fun e w' => e = .returned (.bool true) ∧ ∃ v', WL w' V B v' (xs ++ [x]) ∧ KV V B w w' ∧ Below V w w' := by
  have c0 : w.cell? ⟨V, 0, none⟩ = some v := by simp [World.cell?, h.c]
  have hlt := h.lt
  have hle := h.le
  obtain ⟨a, cap, rfl, _⟩ := OI.form h.r
  have H := Lib.hid h
  have hn1 : Below w.heap.size w (w.alloc (.cells #[.int .i64 x] 3)) := by go_grown
  have HN := Lib.hid hn1
  have R1 := Lib.hid (h.r.below hn1)
  have hsz2 : B ≤ (w.alloc (.cells #[.int .i64 x] 3)).heap.size := by simp; omega
  clear h hn1
  generalize hL : xs.length = n at *
  have HL := Lib.hid hL
  clear hL
  go_enter Try.func64, Try.ntmps64
  go_wp2_with ((at_builtin; refine wpList_app1 rfl _ _ rfl B (.slice a n cap) xs rfl ⟨w.heap.size, 0, none⟩ 1 rfl x R1.out (by go_simp) rfl (by have := HL.out; omega) hsz2 ?_))
  intro v' W2 hr2 hg2 ho2
  replace hr2 : OI W2 B v' (xs ++ [x]) := by unfold OI; simpa using hr2
  obtain ⟨o', cap', rfl, _⟩ := OI.form (xs := xs ++ [x]) hr2
  have hne : ∀ k, (Value.slice a n cap).ownBlock = some k → B ≤ k := fun k e => (H.out.r.lt k e).1
  have hV2 : W2.heap[V]? = some (.cells #[.slice a n cap] 34 (0, 0)) := (hg2.block V (by simp; omega) (fun e => by have := hne V e.symm; omega)).trans ((HN.out.block V (by omega)).trans H.out.c)
  have c1 : W2.cell? ⟨V, 0, none⟩ = some (.slice a n cap) := by simp [World.cell?, hV2]
  have f1 : W2.frozen? ⟨V, 0, none⟩ = false := by simp [World.frozen?, hV2]
  have hsz : w.heap.size ≤ W2.heap.size := by have := hg2.size; simp at this; omega
  have hb2 : Below V w W2 := (HN.out.mono (by omega)).grown hg2 (by simp; omega) (fun k e => by have := hne k e; omega)
  have hW3 : WL (W2.setCell ⟨V, 0, none⟩ (.slice o' (xs ++ [x]).length cap')) V B (.slice o' (xs ++ [x]).length cap') (xs ++ [x]) :=
    ⟨by rw [set_obj (i := 0) _ hV2]; rfl, oi_keep hr2 (fun k hk => set_heap W2 V 0 k _ (fun e => by have := (hr2.lt k hk).1; omega)), hlt, by rw [size_set]; omega⟩
  have hK3 : KV V B w (W2.setCell ⟨V, 0, none⟩ (.slice o' (xs ++ [x]).length cap')) := by
    refine ⟨by rw [size_set]; exact hsz, fun k hk hkV => ?_⟩
    rw [set_heap W2 V 0 k _ hkV, hg2.block k (by simp; omega) (fun e => by have := hne k e.symm; omega), HN.out.block k (by omega)]
  have FIN := Lib.hid (And.intro hW3 (And.intro hK3 (hb2.setCell (p := ⟨V, 0, none⟩) (Nat.le_refl _) (.slice o' (xs ++ [x]).length cap'))))
  clear hr2 hg2 ho2 hV2 hb2 hW3 hK3 c0
  generalize (xs ++ [x]).length = L at *
  go_wp2_with fail
  go_ret
  exact ⟨rfl, _, FIN.out⟩
theorem alls_nil (V D : Nat) (w : World) (hD : w.cell? ⟨D, 0, none⟩ = some (.pointer none)) : Calls Try.prog 81 #[.func (.func 64) #[] #[.pointer (some ⟨V, 0, none⟩)], .pointer (some ⟨D, 0, none⟩)] w fun e w' => (∃ r, e = .returned r) ∧ w' = w := by
  go_enter Try.func81, Try.ntmps81
  go_wp2_with fail
  refine bodyPost_ret (results_none rfl _ _ _) rfl ?_
  exact ⟨⟨_, rfl⟩, rfl⟩
set_option maxRecDepth 20000 in
set_option maxHeartbeats 1000000 in
theorem alls_of (V D B M : Nat) (most : Int) (v : Value) (xs : List Int) (w : World) (h : MS B M w most v xs) (hl : xs.length ≤ 2000) (hD : w.cell? ⟨D, 0, none⟩ = some (.pointer (some ⟨M, 0, none⟩))) (hV : w.heap[V]? = some (.cells #[.slice none 0 0] 34 (0, 0))) (hVM : V ≠ M) (hVv : v.ownBlock ≠ some V) :
    Calls Try.prog 81 #[.func (.func 64) #[] #[.pointer (some ⟨V, 0, none⟩)], .pointer (some ⟨D, 0, none⟩)] w fun e w' => (∃ r, e = .returned r) ∧ ∃ B' v', WL w' V B' v' xs ∧ w.heap.size ≤ B' ∧ KV V w.heap.size w w' ∧ Below V w w' := by
  have nfy := fun f a b => eq_fy f a b w
  obtain ⟨c0, c1, cf⟩ := h.cells
  obtain ⟨a, cap, rfl, _⟩ := OI.form h.row
  have C := Lib.hid (clone_any (.slice a xs.length cap) xs w (view_of_own h.row) (by omega))
  have HV := Lib.hid hV
  have hVl : V < w.heap.size := lt_of_heap hV
  clear h cf hV
  go_enter Try.func81, Try.ntmps81
  go_wp2_with fail
  refine C.out.mono ?_
  rintro e w1 ⟨v1, rfl, hr1, hb1⟩
  obtain ⟨a1, cap1, rfl, _, _, _, hc1⟩ := OI.form (xs := xs) hr1
  have hV1 : w1.heap[V]? = some (.cells #[.slice none 0 0] 34 (0, 0)) := (hb1.block V hVl).trans HV.out
  have HC := Lib.hid hc1
  have HB1 := Lib.hid hb1
  have H0 : Hid (∃ v', WL w1 V w1.heap.size v' (xs.take 0)) := Lib.hid ⟨_, hV1, World.ownsRow_nil _ _ _ _, by have := hb1.size; omega, Nat.le_refl _⟩
  clear hr1 hb1 hc1 hV1 c0 c1 C
  generalize hL : xs.length = n at *
  have HL := Lib.hid hL
  clear hL
  go_wp2_with fail
  go_loopw [17] (fun i wr => ∃ k : Nat, k ≤ n ∧ i = .int .i64 (k : Int) ∧ Hid (∃ v', WL wr V w1.heap.size v' (xs.take k)) ∧ Hid (KV V w1.heap.size w1 wr) ∧ Hid (Below V w1 wr)) (fun i _ => n - (intOf i).toNat)
  case atStart => exact ⟨0, Nat.zero_le _, rfl, H0, Lib.hid (KV.refl _ _ _), Lib.hid (Below.refl _ _)⟩
  case round =>
    clear H0
    obtain ⟨k, hk, rfl, HW, HK, HB⟩ := hrel
    by_cases hlt : k < n
    · obtain ⟨g, rfl⟩ : ∃ g, a1 = some g := by
        cases a1 with
        | none => have := HC.out; simp at *; omega
        | some g => exact ⟨g, rfl⟩
      obtain ⟨q, rfl, hq, hqb, hcq⟩ := HC.out g rfl
      have hck := hcq k (by have := HL.out; omega)
      obtain ⟨x, hx⟩ : ∃ x, xs.getD k 0 = x := ⟨_, rfl⟩
      rw [hx, Nat.zero_add] at hck
      have hc : wr.cell? ⟨q, k, none⟩ = some (.int .i64 x) := (cell_heap (HK.out.2 q hq (by omega))).trans hck
      have HX := Lib.hid hx
      obtain ⟨v', hW⟩ := HW.out
      have hlk : (xs.take k).length ≤ 2000 := by rw [List.length_take]; omega
      have HWW := Lib.hid hW
      have htk : Hid (xs.take k ++ [x] = xs.take (k + 1)) := Lib.hid (by
        have hkl : k < xs.length := by have := HL.out; omega
        rw [List.take_succ_eq_append_getElem hkl, ← hx, List.getD_eq_getElem?_getD, List.getElem?_eq_getElem hkl]; rfl)
      have e2 : (0 : Int) ≤ (k : Int) := by omega
      have e3 : (k : Int) < (n : Int) := by omega
      have e4 : (k : Int).toNat = k := by omega
      clear hck hcq hx hW HC
      go_wp2_with (first | (go_at_call 64; refine (each_of V w1.heap.size v' (xs.take k) x _ HWW.out hlk).mono ?_; rintro e w5 ⟨rfl, v5, hW5, hK5, hB5⟩))
      rw [htk.out] at hW5
      have H5 : Hid (∃ v', WL w5 V w1.heap.size v' (xs.take (k + 1))) := Lib.hid ⟨v5, hW5⟩
      have K5 := Lib.hid (HK.out.trans hK5)
      have B5 := Lib.hid (HB.out.trans hB5)
      clear hW5 hK5 hB5
      go_roundw
      case rel => exact ⟨k + 1, by omega, by go_num, H5, K5, B5⟩
      case measure => simp [intOf]; omega
    · obtain rfl : k = n := by omega
      have hW2 : Hid (∃ v', WL wr V w1.heap.size v' xs) := Lib.hid (by
        obtain ⟨v', hW⟩ := HW.out
        rw [List.take_of_length_le (by have := HL.out; omega)] at hW
        exact ⟨v', hW⟩)
      clear HC
      go_wp2_with fail
      go_end0
      obtain ⟨v', hW⟩ := hW2.out
      exact ⟨⟨_, rfl⟩, w1.heap.size, v', hW, HB1.out.size, ⟨Nat.le_trans HB1.out.size HK.out.1, fun k hk hkV => (HK.out.2 k (Nat.lt_of_lt_of_le hk HB1.out.size) hkV).trans (HB1.out.block k hk)⟩, (HB1.out.mono (by omega)).trans HB.out⟩
theorem allf_of (p0 : Option Addr) (w : World) : Calls Try.prog 63 #[.pointer p0] w fun e w' => e = .returned (.func (.func 81) #[] #[.pointer (some ⟨w.heap.size, 0, none⟩)]) ∧ w' = w.alloc (.cells #[.pointer p0] 43) := by
  go_enter Try.func63, Try.ntmps63
  go_wp2_with fail
  go_ret
  exact ⟨rfl, rfl⟩
def AllPost (xs : List Int) (w : World) (e : Ending) (w' : World) : Prop := ∃ v', e = .returned v' ∧ OI w' w.heap.size v' xs ∧ Below w.heap.size w w'
set_option maxRecDepth 20000 in
set_option maxHeartbeats 1000000 in
theorem all_of (B M : Nat) (most : Int) (v : Value) (xs : List Int) (w : World) (h : MS B M w most v xs) (hl : xs.length ≤ 2000) :
    Calls Try.prog 31 #[.pointer (some ⟨M, 0, none⟩)] w (AllPost xs w) := by
  have nfn := fun f a b => eq_fn f a b
  have b0 : Below w.heap.size w ((w.alloc (.cells #[.slice none 0 0] 34)).alloc (.cells #[.pointer (some ⟨M, 0, none⟩)] 43)) := by go_grown
  have hV := heap_alloc_new w (.cells #[.slice none 0 0] 34)
  have hD := heap_alloc_new (w.alloc (.cells #[.slice none 0 0] 34)) (.cells #[.pointer (some ⟨M, 0, none⟩)] 43)
  have hV2 : ((w.alloc (.cells #[.slice none 0 0] 34)).alloc (.cells #[.pointer (some ⟨M, 0, none⟩)] 43)).heap[w.heap.size]? = some (.cells #[.slice none 0 0] 34 (0, 0)) := ((show Below (w.alloc (.cells #[.slice none 0 0] 34)).heap.size (w.alloc (.cells #[.slice none 0 0] 34)) _ by go_grown).block _ (by simp)).trans hV
  rw [World.size_alloc] at hD
  have cD : ((w.alloc (.cells #[.slice none 0 0] 34)).alloc (.cells #[.pointer (some ⟨M, 0, none⟩)] 43)).cell? ⟨w.heap.size + 1, 0, none⟩ = some (.pointer (some ⟨M, 0, none⟩)) := by simp only [World.cell?, hD]; rfl
  have C := Lib.hid (alls_of w.heap.size (w.heap.size + 1) B M most v xs _ (h.below b0) hl cD hV2 (by have := h.lt; omega) (fun e => by have := (h.row.lt _ e).2; omega))
  have HB0 := Lib.hid b0
  clear h b0 hV hD hV2 cD
  go_enter Try.func31, Try.ntmps31
  go_wp2_with fail
  refine (allf_of _ _).mono ?_
  rintro e w1 ⟨rfl, rfl⟩
  rw [World.size_alloc]
  go_wp2_with fail
  refine C.out.mono ?_
  rintro e w2 ⟨⟨r, rfl⟩, B', v', hW, hB', hK, hb⟩
  have c0 : w2.cell? ⟨w.heap.size, 0, none⟩ = some v' := by simp [World.cell?, hW.c]
  obtain ⟨a, cap, rfl, _⟩ := OI.form hW.r
  have hfin : OI w2 w.heap.size (.slice a xs.length cap) xs := hW.r.base (by simp at hB'; omega)
  have hbf : Below w.heap.size w w2 := HB0.out.trans hb
  have FIN := Lib.hid (And.intro hfin hbf)
  clear hW hK hb hfin hbf C
  generalize xs.length = L at *
  go_wp2_with fail
  go_ret
  exact ⟨_, rfl, FIN.out⟩
set_option maxRecDepth 20000 in
theorem all_nil (w : World) : Calls Try.prog 31 #[.pointer none] w (AllPost [] w) := by
  have nfn := fun f a b => eq_fn f a b
  have b0 : Below w.heap.size w ((w.alloc (.cells #[.slice none 0 0] 34)).alloc (.cells #[.pointer none] 43)) := by go_grown
  have hV := heap_alloc_new w (.cells #[.slice none 0 0] 34)
  have hD := heap_alloc_new (w.alloc (.cells #[.slice none 0 0] 34)) (.cells #[.pointer none] 43)
  have hV2 : ((w.alloc (.cells #[.slice none 0 0] 34)).alloc (.cells #[.pointer none] 43)).heap[w.heap.size]? = some (.cells #[.slice none 0 0] 34 (0, 0)) := ((show Below (w.alloc (.cells #[.slice none 0 0] 34)).heap.size (w.alloc (.cells #[.slice none 0 0] 34)) _ by go_grown).block _ (by simp)).trans hV
  rw [World.size_alloc] at hD
  have cD : ((w.alloc (.cells #[.slice none 0 0] 34)).alloc (.cells #[.pointer none] 43)).cell? ⟨w.heap.size + 1, 0, none⟩ = some (.pointer none) := by simp only [World.cell?, hD]; rfl
  have cV : ((w.alloc (.cells #[.slice none 0 0] 34)).alloc (.cells #[.pointer none] 43)).cell? ⟨w.heap.size, 0, none⟩ = some (.slice none 0 0) := by simp only [World.cell?, hV2]; rfl
  have C := Lib.hid (alls_nil w.heap.size (w.heap.size + 1) _ cD)
  have HB0 := Lib.hid b0
  clear b0 hV hD hV2 cD
  go_enter Try.func31, Try.ntmps31
  go_wp2_with fail
  refine (allf_of _ _).mono ?_
  rintro e w1 ⟨rfl, rfl⟩
  rw [World.size_alloc]
  go_wp2_with fail
  refine C.out.mono ?_
  rintro e w2 ⟨⟨r, rfl⟩, rfl⟩
  go_wp2_with fail
  go_ret
  exact ⟨_, rfl, World.ownsRow_nil _ _ _ _, HB0.out⟩
/-- The function that is called at the end, where nothing has panicked. -/
theorem catch_of (w : World) (q : Nat) : CallsD Try.prog 82 #[.pointer (some ⟨q, 0, none⟩)] .returning w fun e u' w' => e = .returned (.tuple #[]) ∧ u' = .returning ∧ w' = w := by
  refine callsD_of_wpS Try.func82 rfl fun c₀ cs hu => ?_
  refine wpS_seq ?_
  apply wpS_region
  simp [wpOpsS, go_sem, recoverD, hu, Try.ntmps82]
  refine wpS_cond (t := false) (by simp [go_sem]) ?_
  refine wpS_of_wp ?_
  simp only [Bool.false_eq_true, if_false]
  refine wp_skip ?_
  simp [bodyPostS, results, Try.results82]
  cases c₀
  simp_all
set_option maxRecDepth 20000 in
theorem same_of (x y : Int) (w : World) : Calls Try.prog 65 #[.int .i64 x, .int .i64 y] w fun e w' => e = .returned (.bool (x == y)) ∧ Below w.heap.size w w' := by
  have hmf : ∀ (fn : Fn) (first cap : Array Value) (w : World), (Instr.makeFunc fn first cap).run Try.prog w = .ok (.func fn first cap) w := fun _ _ _ _ => rfl
  go_enter_defers Try.func65, Try.ntmps65
  go_wp2_with fail
  refine leaves_cons (f := 82) (args := #[.pointer (some ⟨w.heap.size, 0, none⟩)]) (by simp) (by simp [go_sem]) ?_
  refine (catch_of _ _).mono ?_
  rintro e u' w'' ⟨rfl, rfl, rfl⟩
  simp [Leaves, settle, results, Try.results65, go_sem]
  go_grown
theorem keep_two {w w1 w2 : World} {A B g k : Nat} {i j : Nat} {v0 v1 v2 v3 : Value} (h : Below w.heap.size w w1 ∧ w1.cell? ⟨A, 1, none⟩ = some v0 ∧ w1.cell? ⟨B, 1, none⟩ = some v1 ∧ w1.cell? ⟨g, i, none⟩ = some v2 ∧ w1.cell? ⟨k, j, none⟩ = some v3) (hb : Below w1.heap.size w1 w2) : Below w.heap.size w w2 ∧ w2.cell? ⟨A, 1, none⟩ = some v0 ∧ w2.cell? ⟨B, 1, none⟩ = some v1 ∧ w2.cell? ⟨g, i, none⟩ = some v2 ∧ w2.cell? ⟨k, j, none⟩ = some v3 :=
  ⟨h.1.trans (hb.mono h.1.size), (hb.cell (p := ⟨A, 1, none⟩) (World.block_lt_of_cell? w1 _ h.2.1)).trans h.2.1, (hb.cell (p := ⟨B, 1, none⟩) (World.block_lt_of_cell? w1 _ h.2.2.1)).trans h.2.2.1, (hb.cell (p := ⟨g, i, none⟩) (World.block_lt_of_cell? w1 _ h.2.2.2.1)).trans h.2.2.2.1, (hb.cell (p := ⟨k, j, none⟩) (World.block_lt_of_cell? w1 _ h.2.2.2.2)).trans h.2.2.2.2⟩
theorem equal_len (B M B' M' : Nat) (m m' : Int) (v v' : Value) (xs ys : List Int) (w : World) (h : MS B M w m v xs) (h' : MS B' M' w m' v' ys) (hl : xs.length ≠ ys.length) : Calls Try.prog 32 #[.pointer (some ⟨M, 0, none⟩), .pointer (some ⟨M', 0, none⟩)] w fun e w' => e = .returned (.bool false) ∧ Below w.heap.size w w' := by
  have C := Lib.hid (len_of B M m v xs xs.length w h (Lib.hid rfl))
  have D := Lib.hid (len_of B' M' m' v' ys ys.length w h' (Lib.hid rfl))
  have hd : ((xs.length : Int) != (ys.length : Int)) = true := bne_iff_ne.2 (by omega)
  clear h h'
  generalize xs.length = n at *
  generalize ys.length = n' at *
  clear hl
  go_enter Try.func32, Try.ntmps32
  go_wp2_with fail
  refine C.out.mono ?_
  rintro e w1 ⟨rfl, rfl⟩
  go_wp2_with fail
  refine D.out.mono ?_
  rintro e w2 ⟨rfl, rfl⟩
  go_wp2_with fail
  go_ret
  exact ⟨rfl, Below.refl _ _⟩
theorem equal_nil (B M : Nat) (m : Int) (v : Value) (xs : List Int) (b : Bool) (w : World) (h : MS B M w m v xs) (hb : Hid ((0 != (xs.length : Int)) = !b)) : Calls Try.prog 32 #[.pointer none, .pointer (some ⟨M, 0, none⟩)] w fun e w' => e = .returned (.bool b) ∧ w' = w := by
  have D := Lib.hid (len_of B M m v xs xs.length w h (Lib.hid rfl))
  have hd := hb.out
  clear h
  generalize xs.length = n at *
  have HB := Lib.hid hb
  clear hb
  cases b
  · go_enter Try.func32, Try.ntmps32
    go_wp2_with fail
    refine (len_nil _).mono ?_
    rintro e w1 ⟨rfl, rfl⟩
    go_wp2_with fail
    refine D.out.mono ?_
    rintro e w2 ⟨rfl, rfl⟩
    simp only [Bool.not_false] at hd
    go_wp2_with fail
    go_ret
    exact ⟨rfl, rfl⟩
  · simp only [Bool.not_true] at hd
    go_enter Try.func32, Try.ntmps32
    go_wp2_with fail
    refine (len_nil _).mono ?_
    rintro e w1 ⟨rfl, rfl⟩
    go_wp2_with fail
    refine D.out.mono ?_
    rintro e w2 ⟨rfl, rfl⟩
    go_wp2_with fail
    refine (len_nil _).mono ?_
    rintro e w3 ⟨rfl, rfl⟩
    go_wp2_with fail
    refine wp_loop_rounds 1 ?_
    rw [rounds_succ]
    go_wp2_with fail
    go_ret
    exact ⟨rfl, rfl⟩
theorem cells_of {B M : Nat} {w : World} {m : Int} {v : Value} {xs : List Int} (h : MS B M w m v xs) (hne : 0 < xs.length) : ∃ g cap, v = .slice (some ⟨g, 0, none⟩) xs.length cap ∧ xs.length ≤ cap ∧ ∀ i, i < xs.length → w.cell? ⟨g, i, none⟩ = some (.int .i64 (xs.getD i 0)) := by
  obtain ⟨a, cap, rfl, hn, _, hle, hc⟩ := OI.form h.row
  cases a with
  | none => have := (hn rfl).1; rw [this] at hne; simp at hne
  | some ad =>
    obtain ⟨g, rfl, _, _, hcc⟩ := hc ad rfl
    exact ⟨g, cap, rfl, hle, fun i hi => by have := hcc i hi; rwa [Nat.zero_add] at this⟩
set_option maxRecDepth 20000 in
set_option maxHeartbeats 1000000 in
theorem equal_of (B M B' M' : Nat) (m m' : Int) (v v' : Value) (xs ys : List Int) (w : World) (h : MS B M w m v xs) (h' : MS B' M' w m' v' ys) (hl : xs.length = ys.length) (hx : xs.length ≤ 2000) : Calls Try.prog 32 #[.pointer (some ⟨M, 0, none⟩), .pointer (some ⟨M', 0, none⟩)] w fun e w' => e = .returned (.bool (xs == ys)) ∧ Below w.heap.size w w' := by
  have C := Lib.hid (fun w1 (hb : Below w.heap.size w w1) => len_of B M m v xs xs.length w1 (h.below hb) (Lib.hid rfl))
  have D := Lib.hid (fun w1 (hb : Below w.heap.size w w1) => len_of B' M' m' v' ys xs.length w1 (h'.below hb) (Lib.hid hl.symm))
  have H := Lib.hid h
  have H' := Lib.hid h'
  clear h h'
  generalize hL : xs.length = n at *
  have HL := Lib.hid (And.intro hL hl.symm)
  clear hL hl
  go_enter Try.func32, Try.ntmps32
  go_wp2_with fail
  refine (C.out _ (Below.refl _ _)).mono ?_
  rintro e w1 ⟨rfl, rfl⟩
  go_wp2_with fail
  refine (D.out _ (Below.refl _ _)).mono ?_
  rintro e w2 ⟨rfl, rfl⟩
  go_wp2_with fail
  refine (C.out _ (Below.refl _ _)).mono ?_
  rintro e w3 ⟨rfl, rfl⟩
  go_wp2_with fail
  go_loopw [13] (fun i wr => ∃ k : Nat, k ≤ n ∧ i = .int .i64 (k : Int) ∧ Hid (Below w3.heap.size w3 wr) ∧ Hid (∀ i, i < k → xs.getD i 0 = ys.getD i 0)) (fun i _ => n - (intOf i).toNat)
  case atStart => exact ⟨0, Nat.zero_le _, rfl, Lib.hid (Below.refl _ _), Lib.hid (fun i hi => absurd hi (by omega))⟩
  case round =>
    obtain ⟨k, hk, rfl, HB, HA⟩ := hrel
    by_cases hlt : k < n
    · have hM := H.out.below HB.out
      have hM' := H'.out.below HB.out
      obtain ⟨c0, c1, cf⟩ := hM.cells
      obtain ⟨d0, d1, df⟩ := hM'.cells
      obtain ⟨g, cap, rfl, hcap, hc⟩ := cells_of hM (by have := HL.out.1; omega)
      obtain ⟨g', cap', rfl, hcap', hc'⟩ := cells_of hM' (by have := HL.out.2; omega)
      have ck := hc k (by have := HL.out.1; omega)
      have dk := hc' k (by have := HL.out.2; omega)
      rw [HL.out.1] at c1
      rw [HL.out.2] at d1
      obtain ⟨x, hxx⟩ : ∃ x, xs.getD k 0 = x := ⟨_, rfl⟩
      obtain ⟨y, hyy⟩ : ∃ y, ys.getD k 0 = y := ⟨_, rfl⟩
      rw [hxx] at ck
      rw [hyy] at dk
      have HX := Lib.hid (And.intro hxx hyy)
      have e2 : (0 : Int) ≤ (k : Int) := by omega
      have e3 : (k : Int) < (n : Int) := by omega
      have e4 : (k : Int).toNat = k := by omega
      clear hc hc' hxx hyy hM hM' cf df c0 d0 hcap hcap'
      obtain ⟨b, hbx⟩ : ∃ b, (x == y) = b := ⟨_, rfl⟩
      have HS : Hid (∀ w1, Calls Try.prog 65 #[.int .i64 x, .int .i64 y] w1 fun e w' => e = .returned (.bool b) ∧ Below w1.heap.size w1 w') := Lib.hid (fun w1 => by rw [← hbx]; exact same_of x y w1)
      have HBX := Lib.hid hbx
      clear hbx
      cases b
      · go_wp2_with fail
        go_region_held3 (fun w' => Below wr.heap.size wr w' ∧ w'.cell? ⟨M, 1, none⟩ = some (.slice (some ⟨g, 0, none⟩) n cap) ∧ w'.cell? ⟨M', 1, none⟩ = some (.slice (some ⟨g', 0, none⟩) n cap') ∧ w'.cell? ⟨g, k, none⟩ = some (.int .i64 x) ∧ w'.cell? ⟨g', k, none⟩ = some (.int .i64 y)) (first | (with_reducible assumption) | exact ⟨Below.refl _ _, c1, d1, ck, dk⟩ | (refine keep_two ⟨Below.refl _ _, c1, d1, ck, dk⟩ ?_; go_grown; done) | (refine keep_two (by with_reducible assumption) ?_; first | (with_reducible assumption) | (go_grown; done)) | (refine keep_two ⟨Below.refl _ _, c1, d1, ck, dk⟩ ?_; exact (show Below wr.heap.size wr wr.drew by go_grown).trans hb5))
          (first | (go_at_call 65; refine (HS.out _).mono ?_; rintro e w5 ⟨rfl, hb5⟩))
        have HB5 := Lib.hid (HB.out.trans (((show Below wr.heap.size wr wr.drew by go_grown).trans hb5).mono HB.out.size))
        clear hb5 c1 d1 ck dk
        go_wp2_with fail
        go_ret
        refine ⟨ret_bool ?_, HB5.out⟩
        symm
        simp only [beq_eq_false_iff_ne, ne_eq]
        intro e
        rw [e] at HX
        have := HBX.out
        rw [← HX.out.1, ← HX.out.2] at this
        simp at this
      · go_wp2_with fail
        go_region_held3 (fun w' => Below wr.heap.size wr w' ∧ w'.cell? ⟨M, 1, none⟩ = some (.slice (some ⟨g, 0, none⟩) n cap) ∧ w'.cell? ⟨M', 1, none⟩ = some (.slice (some ⟨g', 0, none⟩) n cap') ∧ w'.cell? ⟨g, k, none⟩ = some (.int .i64 x) ∧ w'.cell? ⟨g', k, none⟩ = some (.int .i64 y)) (first | (with_reducible assumption) | exact ⟨Below.refl _ _, c1, d1, ck, dk⟩ | (refine keep_two ⟨Below.refl _ _, c1, d1, ck, dk⟩ ?_; go_grown; done) | (refine keep_two (by with_reducible assumption) ?_; first | (with_reducible assumption) | (go_grown; done)) | (refine keep_two ⟨Below.refl _ _, c1, d1, ck, dk⟩ ?_; exact (show Below wr.heap.size wr wr.drew by go_grown).trans hb5))
          (first | (go_at_call 65; refine (HS.out _).mono ?_; rintro e w5 ⟨rfl, hb5⟩))
        have HB5 := Lib.hid (HB.out.trans (((show Below wr.heap.size wr wr.drew by go_grown).trans hb5).mono HB.out.size))
        clear hb5 c1 d1 ck dk
        have hxy : x = y := by simpa using HBX.out
        have HXY := Lib.hid hxy
        clear hxy
        go_wp2_with fail
        go_roundw
        case rel =>
          refine ⟨k + 1, by omega, by go_num, HB5, Lib.hid (fun i hi => ?_)⟩
          by_cases hik : i = k
          · rw [hik, HX.out.1, HX.out.2, HXY.out]
          · exact HA.out i (by omega)
        case measure => simp [intOf]; omega
    · obtain rfl : k = n := by omega
      go_wp2_with fail
      go_ret
      refine ⟨ret_bool ?_, HB.out⟩
      symm
      simp only [beq_iff_eq]
      apply List.ext_getElem (HL.out.1.trans HL.out.2.symm)
      intro i h1 h2
      have h3 := HA.out i (by have := HL.out.1; omega)
      simpa [h1, h2] using h3
end Go.Proofs.Ytajmmglfdinahaa.mo
