/- A greedy plan, row by row; what is ready; whether a number is in a list (layer 41). -/
import Derived.Test.YtpflimnngilhnaaSpG
import Derived.Test.YtpflimnngilhnaaApp1
namespace Go.Proofs.Ytpflimnngilhnaa.rh
open Go.ChangeShapes Go.WideShapes Go.ChangeAt Go.RowKit
set_option linter.unusedVariables false
set_option linter.unusedSimpArgs false
def rdB (L : List (List Int)) (dn : List Int) (i : Nat) : Bool := !decide ((i : Int) ∈ dn) && (L.getD i []).all (fun a => decide (a ∈ dn))
def rdy (L : List (List Int)) (k : Nat) (dn : List Int) : Nat → List Int
  | 0 => []
  | i + 1 => if (rdy L k dn i).length < k ∧ rdB L dn i = true then rdy L k dn i ++ [(i : Int)] else rdy L k dn i
theorem rdy_len (L : List (List Int)) (k : Nat) (dn : List Int) (n : Nat) : (rdy L k dn n).length ≤ k := by
  induction n with
  | zero => exact Nat.zero_le _
  | succ n ih =>
    simp only [rdy]
    split
    · rename_i h; rw [List.length_append, List.length_singleton]; omega
    · exact ih
theorem rdy_le (L : List (List Int)) (k : Nat) (dn : List Int) (n : Nat) : (rdy L k dn n).length ≤ n := by
  induction n with
  | zero => exact Nat.le_refl _
  | succ n ih =>
    simp only [rdy]
    split
    · rw [List.length_append, List.length_singleton]; omega
    · omega
theorem rdy_full (L : List (List Int)) (k : Nat) (dn : List Int) (m n : Nat) (hmn : m ≤ n) (h : (rdy L k dn m).length = k) : rdy L k dn n = rdy L k dn m := by
  induction n with
  | zero => have : m = 0 := by omega
            subst this; rfl
  | succ n ih =>
    by_cases e : m = n + 1
    · subst e; rfl
    · rw [rdy, ih (by omega), if_neg (by omega)]
theorem rdy_mem {L : List (List Int)} {k : Nat} {dn : List Int} {n : Nat} {x : Int} (h : x ∈ rdy L k dn n) : ∃ i, i < n ∧ x = (i : Int) ∧ rdB L dn i = true := by
  induction n with
  | zero => cases h
  | succ n ih =>
    simp only [rdy] at h
    split at h
    · rename_i h2
      rcases List.mem_append.1 h with h | h
      · obtain ⟨i, h3, h4, h5⟩ := ih h
        exact ⟨i, by omega, h4, h5⟩
      · exact ⟨n, by omega, by simpa using h, h2.2⟩
    · obtain ⟨i, h3, h4, h5⟩ := ih h
      exact ⟨i, by omega, h4, h5⟩
theorem rdy_nodup (L : List (List Int)) (k : Nat) (dn : List Int) (n : Nat) : (rdy L k dn n).Nodup := by
  induction n with
  | zero => exact List.nodup_nil
  | succ n ih =>
    simp only [rdy]
    split
    · rw [List.nodup_append]
      refine ⟨ih, by simp, fun a ha b hb => ?_⟩
      obtain ⟨i, h3, h4, _⟩ := rdy_mem ha
      have : b = (n : Int) := by simpa using hb
      omega
    · exact ih
theorem rdy_has {L : List (List Int)} {k : Nat} {dn : List Int} {i n : Nat} (hk : 1 ≤ k) (hi : i < n) (h : rdB L dn i = true) : 1 ≤ (rdy L k dn n).length := by
  induction n with
  | zero => omega
  | succ n ih =>
    simp only [rdy]
    by_cases e : i = n
    · subst e
      split
      · rw [List.length_append, List.length_singleton]; omega
      · rename_i h2
        have : ¬ (rdy L k dn i).length < k := fun h3 => h2 ⟨h3, h⟩
        omega
    · have := ih (by omega)
      split
      · rw [List.length_append]; omega
      · exact this
def dnT (L : List (List Int)) (n k : Nat) : Nat → List Int
  | 0 => []
  | t + 1 => dnT L n k t ++ rdy L k (dnT L n k t) n
def roT (L : List (List Int)) (n k : Nat) : Nat → List (List Int)
  | 0 => []
  | t + 1 => roT L n k t ++ [rdy L k (dnT L n k t) n]
theorem roT_len (L : List (List Int)) (n k t : Nat) : (roT L n k t).length = t := by
  induction t with
  | zero => rfl
  | succ t ih => simp [roT, ih]
def ind (dn : List Int) (i : Nat) : Bool := decide ((i : Int) ∈ dn)
def DnOk (n : Nat) (dn : List Int) : Prop := dn.Nodup ∧ ∀ x ∈ dn, 0 ≤ x ∧ x < (n : Int)
theorem cnt_ind {n : Nat} : ∀ {dn : List Int}, DnOk n dn → cnt (ind dn) n = dn.length := by
  intro dn
  induction dn with
  | nil => intro _; exact cnt_zero _ _ fun i _ => by simp [ind]
  | cons x l ih =>
    rintro ⟨h1, h2⟩
    have hx := h2 x (by simp)
    have h3 := ih ⟨(List.nodup_cons.1 h1).2, fun y hy => h2 y (by simp [hy])⟩
    have hnx := (List.nodup_cons.1 h1).1
    obtain ⟨j, rfl⟩ : ∃ j : Nat, x = (j : Int) := ⟨x.toNat, by omega⟩
    have key : ∀ m, cnt (ind ((j : Int) :: l)) m = cnt (ind l) m + if j < m then 1 else 0 := by
      intro m
      induction m with
      | zero => rfl
      | succ m ih2 =>
        simp only [cnt]
        rw [ih2]
        by_cases e : m = j
        · subst e
          have e1 : ind ((m : Int) :: l) m = true := by simp [ind]
          have e2 : ind l m = false := by simpa [ind] using hnx
          rw [e1, e2]; simp
        · have e1 : ind ((j : Int) :: l) m = ind l m := by
            unfold ind
            have : ¬ (m : Int) = (j : Int) := by omega
            simp [this]
          rw [e1]
          by_cases h4 : j < m
          · have h5 : j < m + 1 := by omega
            simp only [h4, h5, if_true]; omega
          · have h5 : ¬ j < m + 1 := by omega
            simp only [h4, h5, if_false]; omega
    rw [key n, h3, if_pos (by omega), List.length_cons]
theorem dn_le {n : Nat} {dn : List Int} (h : DnOk n dn) : dn.length ≤ n := by rw [← cnt_ind h]; exact cnt_le _ _
theorem dn_next {L : List (List Int)} {n k : Nat} {dn : List Int} (h : DnOk n dn) : DnOk n (dn ++ rdy L k dn n) := by
  refine ⟨?_, fun x hx => ?_⟩
  · rw [List.nodup_append]
    refine ⟨h.1, rdy_nodup _ _ _ _, fun a ha b hb e => ?_⟩
    obtain ⟨i, _, h4, h5⟩ := rdy_mem hb
    unfold rdB at h5
    simp only [Bool.and_eq_true, Bool.not_eq_true', decide_eq_false_iff_not] at h5
    exact h5.1 (by rw [← h4, ← e]; exact ha)
  · rcases List.mem_append.1 hx with h1 | h1
    · exact h.2 x h1
    · obtain ⟨i, h3, h4, _⟩ := rdy_mem h1
      omega
theorem dnT_ok (L : List (List Int)) (n k t : Nat) : DnOk n (dnT L n k t) := by
  induction t with
  | zero => exact ⟨List.nodup_nil, fun x h => by cases h⟩
  | succ t ih => exact dn_next ih
theorem least {p : Nat → Bool} {n : Nat} (h : cnt p n < n) : ∃ i, i < n ∧ p i = false ∧ ∀ j, j < i → p j = true := by
  induction n with
  | zero => omega
  | succ n ih =>
    by_cases e : cnt p n < n
    · obtain ⟨i, h1, h2, h3⟩ := ih e
      exact ⟨i, by omega, h2, h3⟩
    · have hall : ∀ j, j < n → p j = true := by
        intro j hj
        cases hp : p j with
        | true => rfl
        | false =>
          have := cnt_more p (fun _ => true) n j hj (fun _ _ _ => rfl) hp rfl
          have h2 : cnt (fun _ => true) n ≤ n := cnt_le _ _
          omega
      refine ⟨n, by omega, ?_, hall⟩
      cases hp : p n with
      | false => rfl
      | true => simp only [cnt, hp] at h; simp at h; omega
theorem rdy_some {L : List (List Int)} (hv : Valid L) {n k : Nat} {dn : List Int} (hk : 1 ≤ k) (hd : DnOk n dn) (h : dn.length < n) : 1 ≤ (rdy L k dn n).length := by
  rw [← cnt_ind hd] at h
  obtain ⟨i, h1, h2, h3⟩ := least h
  refine rdy_has hk h1 ?_
  unfold ind at h2 h3
  unfold rdB
  rw [h2]
  simp only [Bool.not_false, Bool.true_and]
  refine List.all_eq_true.2 fun a ha => ?_
  have h4 := hv i a ha
  have h5 := h3 a.toNat (by omega)
  rw [show ((a.toNat : Nat) : Int) = a by omega] at h5
  exact h5
/-- a row of one's own stays where its block stays. -/
theorem oi_block {w w' : World} {B : Nat} {v : Value} {xs : List Int} (h : OI w B v xs) (hk : ∀ g, v.ownBlock = some g → w'.heap[g]? = w.heap[g]?) : OI w' B v xs := by
  obtain ⟨hl, h1 | ⟨g, cap, cur, rfl, h2, hh, h3⟩⟩ := h
  · exact ⟨hl, .inl h1⟩
  · exact ⟨hl, .inr ⟨g, cap, cur, rfl, h2, (hk g rfl).trans hh, h3⟩⟩
theorem own_ltI {w : World} {B : Nat} {v : Value} {xs : List Int} (h : OI w B v xs) : ∀ k, v.ownBlock = some k → B ≤ k ∧ k < w.heap.size := by
  intro k hk
  obtain ⟨_, ⟨rfl, _⟩ | ⟨g2, cap2, cur2, rfl, h1, hh2, _⟩⟩ := h
  · simp [Value.ownBlock] at hk
  · simp [Value.ownBlock] at hk
    subst hk
    exact ⟨h1, (Array.getElem?_eq_some_iff.1 hh2).1⟩
theorem oi_nil (w : World) (B : Nat) : OI w B (.slice none 0 0) [] := World.ownsRow_nil _ _ _ _
theorem om_blocks {w w' : World} {B : Nat} {v : Value} {rows : List Value} {L : List (List Int)} (h : OM w B v rows L) (h1 : ∀ g, v.ownBlock = some g → w'.heap[g]? = w.heap[g]?) (h2 : ∀ (i : Nat) (u : Value), rows[i]? = some u → ∀ (g : Nat), u.ownBlock = some g → w'.heap[g]? = w.heap[g]?) : OM w' B v rows L := by
  refine ⟨?_, fun i hi => ?_⟩
  · obtain ⟨hl, h3 | ⟨g, cap, cur, rfl, h4, hh, h5⟩⟩ := h.1
    · exact ⟨hl, .inl h3⟩
    · exact ⟨hl, .inr ⟨g, cap, cur, rfl, h4, (h1 g rfl).trans hh, h5⟩⟩
  · obtain ⟨u, hu, ho⟩ := h.2 i hi
    exact ⟨u, hu, oi_block ho (h2 i u hu)⟩
/-- 'append(v, x...)' of a list that isn't empty. -/
theorem wpList_appV {ops : Array Oper} {rest : List Oper} {o : Oper} {a : Act} {w : World} {Q : Exit → Act → World → Prop} (hgd : o.guard = none) (s x : Operand)
    (ho : o.op = .call { callee := .builtin .append, args := #[s, x], argTypes := #[24, 24] })
    (B : Nat) (v : Value) (xs us : List Int) (hs : a.eval s = v) (hown : OI w B v xs) (hx : View w (a.eval x) us) (hne : us ≠ []) (hsm : xs.length + us.length ≤ 100000) (hB : B ≤ w.heap.size)
    (h : ∀ v' w', OI w' B v' (xs ++ us) → w.grownBy w' v.ownBlock → (v'.ownBlock = v.ownBlock ∨ v'.ownBlock = some w.heap.size) → wpList Try.prog ops Q rest (a.put o.dst v') w') : wpList Try.prog ops Q (o :: rest) a w :=
  wpList_plain hgd fun _ hK => by
    rcases hx.cases with ⟨rfl, _⟩ | ⟨_, b, off, cap, hv, hle, hlt, hm, hc⟩
    · exact absurd rfl hne
    obtain ⟨i0, hi, hz0, hz1, hz2⟩ := info_parts info3
    obtain ⟨v', w', r1, r2, r3, _, r5⟩ := run_append_own_at (P := Try.prog) w B 24 o.type 3 i0 (.int .i64 0) 1 8 Try.underlying24 hi hz0 hz1 hz2 rfl (by decide) v xs.length _ hown ⟨b, off, none⟩ us.length cap (us.map (Value.int .i64)) (by simp) (by
      intro j u hj
      have hj' : j < us.length := by have := (List.getElem?_eq_some_iff.1 hj).1; simpa using this
      have := hc j hj'
      rw [Go.WideShapes.add_plain, this]
      rw [List.getElem?_map, List.getElem?_eq_getElem hj'] at hj
      simp only [Option.map_some, Option.some.injEq] at hj
      rw [← hj, List.getD_eq_getElem?_getD, List.getElem?_eq_getElem hj']; rfl) (by intro u hu; obtain ⟨n, _, rfl⟩ := List.mem_map.1 hu; rfl) (by unfold maxLen; omega) (by omega) hB
    unfold Oper.wp execOp
    simp only [ho, resolve, invoke, builtin, Sem.run_bind, Sem.run_pure, Result.andThen_ok, List.map_toArray, List.map_cons, List.map_nil, hs, hv, r1]
    exact hK _ _ (h v' w' (by unfold OI; simpa using r2) r3 r5)
theorem rhas_of (v : Value) (xs : List Int) (x : Int) (b : Bool) (w : World) (h : View w v xs) (hsm : xs.length ≤ 100000) (hb : decide (x ∈ xs) = b) :
    Calls Try.prog 37 #[v, .int .i64 x] w fun e w' => e = .returned (.bool b) ∧ w = w' := by
  have hv := h
  obtain ⟨a, cap, rfl, _⟩ := hv
  have H := Lib.hid h
  have HB := Lib.hid hb
  have hcap := h.len.2
  unfold maxLen at hcap
  obtain ⟨m, hm⟩ : ∃ m, xs.length = m := ⟨_, rfl⟩
  have HM := Lib.hid hm
  rw [hm] at H hsm hcap ⊢
  clear h hb hm
  go_enter Try.func37, Try.ntmps37
  go_wp2_with fail
  go_loop [5] (fun i => ∃ k : Nat, k ≤ m ∧ i = .int .i64 (k : Int) ∧ Hid (decide (x ∈ xs.take k) = false)) (fun i => m - (intOf i).toNat)
  case atStart => exact ⟨0, by omega, rfl, Lib.hid (by simp)⟩
  case round =>
    obtain ⟨k, hk, rfl, HK⟩ := hrel
    by_cases hlt : k < m
    · obtain ⟨b2, o2, rfl, hbl, hc⟩ := H.out.at k hlt
      obtain ⟨y, hy⟩ : ∃ y, xs.getD k 0 = y := ⟨_, rfl⟩
      rw [hy] at hc
      have HY := Lib.hid hy
      clear hy
      by_cases e : y = x
      · subst e
        have HT : Hid (b = true) := Lib.hid (by rw [← HB.out, decide_eq_true_eq, ← HY.out]; exact getD_mem (by rw [HM.out]; exact hlt))
        go_wp2_with fail
        go_ret
        exact ⟨by rw [HT.out]; rfl, rfl⟩
      · have hyb : (y == x) = false := by simpa using e
        have HN : Hid (decide (x ∈ xs.take (k + 1)) = false) := Lib.hid (by
          have h1 := HK.out
          rw [decide_eq_false_iff_not] at h1 ⊢
          rw [List.take_add_one, List.getElem?_eq_getElem (by rw [HM.out]; exact hlt), List.mem_append]
          rintro (h2 | h2)
          · exact h1 h2
          · have h3 := HY.out
            rw [List.getD_eq_getElem?_getD, List.getElem?_eq_getElem (by rw [HM.out]; exact hlt)] at h3
            simp at h2 h3
            exact e (by rw [← h3, ← h2]))
        go_wp2_with fail
        go_round
        case rel => exact ⟨k + 1, by omega, by go_num, HN⟩
        case measure => simp [intOf]; omega
    · obtain rfl : k = m := by omega
      have HT : Hid (b = false) := Lib.hid (by rw [← HB.out, ← HK.out, List.take_of_length_le (by rw [HM.out]; omega)])
      go_wp2_with fail
      go_ret
      exact ⟨by rw [HT.out]; rfl, rfl⟩
/-- Block S is N truth values. -/
def BR (w : World) (S N : Nat) (f : Nat → Bool) : Prop := w.rowIs S 4 N (fun i => .bool (f i))
theorem BR.below {w w' : World} {S N : Nat} {f : Nat → Bool} (h : BR w S N f) (hb : Below w.heap.size w w') : BR w' S N f :=
  h.of_block (hb.block S h.lt)
theorem BR.set {w : World} {S N : Nat} {f : Nat → Bool} (h : BR w S N f) (i : Nat) (x : Bool) : BR (w.setCell ⟨S, i, none⟩ (.bool x)) S N (fun j => if j = i then x else f j) :=
  (World.rowIs.set h i _).congr fun j hj => by dsimp only; split <;> rfl
theorem BR.congr {w : World} {S N : Nat} {f g : Nat → Bool} (h : BR w S N f) (e : ∀ i, i < N → f i = g i) : BR w S N g :=
  World.rowIs.congr h fun i hi => by rw [e i hi]
theorem BR.at {w : World} {S N : Nat} {f : Nat → Bool} (h : BR w S N f) (i : Nat) (x : Bool) (hi : i < N) (hx : f i = x) : w.cell? ⟨S, i, none⟩ = some (.bool x) := by
  rw [World.rowIs.cell h hi, hx]
theorem info4 : (Try.prog.info? 4).map (fun i => (i.zero, i.size, i.bytes)) = some (some (.bool false), 1, 1) := by kernel_rfl
def boolsObj (n : Nat) : Obj := .cells (madeCells #[.bool false] n) 4
theorem mk_bools (n : Nat) (hn : n ≤ 2000) (w : World) : (Instr.makeSlice 64 (.int .i64 (n : Int)) (.int .i64 (n : Int))).run Try.prog w = .ok (.slice (some ⟨w.heap.size, 0, none⟩) n n) (w.alloc (boolsObj n)) :=
  run_make_row' _ _ (.bool false) 1 Try.underlying64 info4 rfl .i64 .i64 n (by omega) (by omega) w
theorem made_bools (n : Nat) (w : World) : BR (w.alloc (boolsObj n)) w.heap.size n (fun _ => false) := World.rowIs_made w (.bool false) n 4
def RdPost (w : World) (xs : List Int) (e : Ending) (w' : World) : Prop := ∃ v, e = .returned v ∧ OI w' w.heap.size v xs ∧ Below w.heap.size w w'
set_option maxRecDepth 20000 in
theorem ready_of (SL SD n k : Nat) (f : Nat → Nat) (g : Nat → Bool) (L : List (List Int)) (dn : List Int) (w : World) (hL : NR w SL n f) (hD : BR w SD n g) (hk : k ≤ 64) (hn : n ≤ 1000) (hr : ∀ i, i < n → (f i == 0 && !g i) = rdB L dn i) :
    Calls Try.prog 36 #[.slice (some ⟨SL, 0, none⟩) n n, .slice (some ⟨SD, 0, none⟩) n n, .int .i64 (k : Int)] w (RdPost w (rdy L k dn n)) := by
  have HL := Lib.hid hL
  have HD := Lib.hid hD
  have HR := Lib.hid hr
  have h0 : Hid (OI w w.heap.size (.slice none 0 0) (rdy L k dn 0)) := Lib.hid (oi_nil _ _)
  clear hL hD hr
  go_enter Try.func36, Try.ntmps36
  go_wp2_with fail
  go_loopw [7, 11] (fun v i wr => ∃ (j : Nat) (vm : Value), vm = v ∧ j ≤ n ∧ i = .int .i64 (j : Int) ∧ Hid (OI wr w.heap.size v (rdy L k dn j)) ∧ Hid (Below w.heap.size w wr)) (fun _ i _ => n - (intOf i).toNat)
  case atStart => exact ⟨0, _, rfl, by omega, rfl, h0, Lib.hid (Below.refl _ _)⟩
  case round =>
    clear h0
    obtain ⟨j, vm, rfl, hj, rfl, HO, HB⟩ := hrel
    have hsz := HB.out.size
    obtain ⟨av, cv, rfl, _⟩ := OI.form HO.out
    obtain ⟨m, hm⟩ : ∃ m, (rdy L k dn j).length = m := ⟨_, rfl⟩
    have hml : m ≤ 1000 := by have := rdy_le L k dn j; omega
    rw [hm] at HO ⊢
    have HM := Lib.hid hm
    clear hm
    by_cases hlt : j < n
    · obtain ⟨x, hx⟩ : ∃ x, f j = x := ⟨_, rfl⟩
      obtain ⟨y, hy⟩ : ∃ y, g j = y := ⟨_, rfl⟩
      have hcx := (HL.out.below HB.out).at j x hlt hx
      have hcy := (HD.out.below HB.out).at j y hlt hy
      have hrr := HR.out j hlt
      rw [hx, hy] at hrr
      have HRR := Lib.hid hrr
      clear hx hy hrr
      by_cases hx0 : x = 0
      · subst hx0
        have hcx' : wr.cell? ⟨SL, j, none⟩ = some (.int .i64 0) := hcx
        clear hcx
        cases y with
        | true =>
          have HN : Hid (rdy L k dn (j + 1) = rdy L k dn j) := Lib.hid (by rw [rdy, if_neg (by rw [← HRR.out]; simp)])
          go_wp2_with fail
          go_roundw
          case rel => exact ⟨j + 1, _, rfl, by omega, by go_num, by rw [HN.out]; exact HO, HB⟩
          case measure => simp [intOf]; omega
        | false =>
          by_cases hmk : m < k
          · have hmI : (m : Int) < (k : Int) := by omega
            have HN : Hid (rdy L k dn (j + 1) = rdy L k dn j ++ [(j : Int)]) := Lib.hid (by rw [rdy, if_pos ⟨by rw [HM.out]; exact hmk, by rw [← HRR.out]; rfl⟩])
            have hn2 : Below wr.heap.size wr (wr.alloc (.cells #[.int .i64 (j : Int)] 3)) := (Below.refl _ _).alloc (Nat.le_refl _) _
            have HO2 := Lib.hid (HO.out.below hn2)
            have HB2 := Lib.hid (HB.out.trans (hn2.mono hsz))
            have hz2 : w.heap.size ≤ (wr.alloc (.cells #[.int .i64 (j : Int)] 3)).heap.size := by simp; omega
            have HLt : Hid (∀ q, (Value.slice av m cv).ownBlock = some q → w.heap.size ≤ q) := Lib.hid (fun q e => (own_ltI HO.out q e).1)
            clear hn2 HO HB
            go_wp2_with ((at_builtin; refine wpList_app1 rfl _ _ rfl w.heap.size _ (rdy L k dn j) rfl ⟨wr.heap.size, 0, none⟩ 1 rfl (j : Int) HO2.out (by go_simp) rfl (by rw [HM.out]; omega) hz2 ?_))
            intro v2 W3 hr2 hg2 ho2
            replace hr2 : OI W3 w.heap.size v2 (rdy L k dn (j + 1)) := by rw [HN.out]; unfold OI; simpa using hr2
            have HO3 := Lib.hid hr2
            have HB3 := Lib.hid (HB2.out.grown hg2 hz2 HLt.out)
            clear hr2 hg2 ho2 HO2 HB2
            go_wp2_with fail
            go_roundw
            case rel => exact ⟨j + 1, _, rfl, by omega, by go_num, HO3, HB3⟩
            case measure => simp [intOf]; omega
          · have hmI : ¬ (m : Int) < (k : Int) := by omega
            have HN : Hid (rdy L k dn (j + 1) = rdy L k dn j) := Lib.hid (by rw [rdy, if_neg (by rw [HM.out]; omega)])
            go_wp2_with fail
            go_roundw
            case rel => exact ⟨j + 1, _, rfl, by omega, by go_num, by rw [HN.out]; exact HO, HB⟩
            case measure => simp [intOf]; omega
      · have hxb : (x == 0) = false := by simpa using hx0
        have hxI : ¬ (x : Int) = 0 := by omega
        have hxc : ((x : Int) == 0) = false := beq_eq_false_iff_ne.2 hxI
        have HN : Hid (rdy L k dn (j + 1) = rdy L k dn j) := Lib.hid (by rw [rdy, if_neg (by rw [← HRR.out, hxb]; simp)])
        go_wp2_with fail
        go_roundw
        case rel => exact ⟨j + 1, _, rfl, by omega, by go_num, by rw [HN.out]; exact HO, HB⟩
        case measure => simp [intOf]; omega
    · obtain rfl : j = n := by omega
      go_wp2_with fail
      go_ret
      exact ⟨_, rfl, HO.out, HB.out⟩
end Go.Proofs.Ytpflimnngilhnaa.rh
