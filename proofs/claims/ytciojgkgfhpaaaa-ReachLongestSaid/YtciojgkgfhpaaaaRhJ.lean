/- What lies ahead of one, as the document reckons it (layer 31). -/
import Derived.Test.YtciojgkgfhpaaaaRhI
namespace Go.Proofs.Ytciojgkgfhpaaaa.rh
open Go.ChangeShapes Go.WideShapes Go.ChangeAt Go.RowKit
set_option linter.unusedVariables false
set_option linter.unusedSimpArgs false
/-- Block S is N truth values. -/
def BR (w : World) (S N : Nat) (f : Nat → Bool) : Prop := w.rowIs S 4 N (fun i => .bool (f i))
theorem BR.below {w w' : World} {S N : Nat} {f : Nat → Bool} (h : BR w S N f) (hb : Below w.heap.size w w') : BR w' S N f :=
  h.of_block (hb.block S h.lt)
theorem BR.set {w : World} {S N : Nat} {f : Nat → Bool} (h : BR w S N f) (i : Nat) (x : Bool) : BR (w.setCell ⟨S, i, none⟩ (.bool x)) S N (fun j => if j = i then x else f j) :=
  (World.rowIs.set h i _).congr fun j hj => by dsimp only; split <;> rfl
theorem BR.congr {w : World} {S N : Nat} {f g : Nat → Bool} (h : BR w S N f) (e : ∀ i, i < N → f i = g i) : BR w S N g :=
  World.rowIs.congr h fun i hi => by rw [e i hi]
theorem BR.at {w : World} {S N : Nat} {f : Nat → Bool} (h : BR w S N f) (i : Nat) (x : Bool) (hi : i < N) (hx : f i = x) : w.cell? ⟨S, i, none⟩ = some (.bool x) := by
  rw [World.rowIs.cell h hi, hx]
theorem info4 : (Try.prog.info? 4).map (fun i => (i.zero, i.size, i.bytes)) = some (some (.bool false), 1, 1) := by kernel_rfl
def boolsObj (n : Nat) : Obj := .cells (madeCells #[.bool false] n) 4
theorem mk_bools (n : Nat) (hn : n ≤ 2000) (w : World) : (Instr.makeSlice 36 (.int .i64 (n : Int)) (.int .i64 (n : Int))).run Try.prog w = .ok (.slice (some ⟨w.heap.size, 0, none⟩) n n) (w.alloc (boolsObj n)) :=
  run_make_row' _ _ (.bool false) 1 Try.underlying36 info4 rfl .i64 .i64 n (by omega) (by omega) w
theorem made_bools (n : Nat) (w : World) : BR (w.alloc (boolsObj n)) w.heap.size n (fun _ => false) := World.rowIs_made w (.bool false) n 4
theorem P.last {L : List (List Int)} {x b : Nat} : P L x b ↔ (x : Int) ∈ L.getD b [] ∨ ∃ a : Nat, P L a b ∧ (x : Int) ∈ L.getD a [] := by
  constructor
  · intro h
    induction h with
    | one b h => exact .inl h
    | two a b h hp ih =>
      rcases ih with h1 | ⟨c, h1, h2⟩
      · exact .inr ⟨a, .one _ h, h1⟩
      · exact .inr ⟨c, .two _ _ h h1, h2⟩
  · rintro (h | ⟨a, h1, h2⟩)
    · exact .one _ h
    · exact P.trans (.one _ h2) h1
def Q (L : List (List Int)) (y t x : Nat) : Prop := (x : Int) ∈ L.getD y [] ∨ ∃ a : Nat, t ≤ a ∧ P L a y ∧ (x : Int) ∈ L.getD a []
open Classical in
noncomputable def qB (L : List (List Int)) (y t x : Nat) : Bool := decide (Q L y t x)
theorem qB_true {L : List (List Int)} {y t x : Nat} : qB L y t x = true ↔ Q L y t x := by unfold qB; simp
theorem bool_iff {a b : Bool} (h : a = true ↔ b = true) : a = b := by cases a <;> cases b <;> simp_all
theorem q_start {L : List (List Int)} (hv : Valid L) (y x : Nat) : decide ((x : Int) ∈ L.getD y []) = qB L y y x := by
  apply bool_iff
  rw [qB_true, decide_eq_true_eq]
  constructor
  · exact .inl
  · rintro (h | ⟨a, h1, h2, _⟩)
    · exact h
    · have := h2.lt hv; omega
theorem q_at {L : List (List Int)} (hv : Valid L) (y t : Nat) : qB L y (t + 1) t = pB L t y := by
  apply bool_iff
  rw [qB_true, pB_true, P.last]
  constructor
  · rintro (h | ⟨a, h1, h2, h3⟩)
    · exact .inl h
    · exact .inr ⟨a, h2, h3⟩
  · rintro (h | ⟨a, h2, h3⟩)
    · exact .inl h
    · exact .inr ⟨a, by have := (hv a _ h3).2; omega, h2, h3⟩
theorem q_end {L : List (List Int)} (y x : Nat) : qB L y 0 x = pB L x y := by
  apply bool_iff
  rw [qB_true, pB_true, P.last]
  constructor
  · rintro (h | ⟨a, h1, h2, h3⟩)
    · exact .inl h
    · exact .inr ⟨a, h2, h3⟩
  · rintro (h | ⟨a, h2, h3⟩)
    · exact .inl h
    · exact .inr ⟨a, Nat.zero_le _, h2, h3⟩
theorem q_no {L : List (List Int)} {y t x : Nat} (h : pB L t y = false) : qB L y (t + 1) x = qB L y t x := by
  apply bool_iff
  rw [qB_true, qB_true]
  constructor
  · rintro (h | ⟨a, h1, h2, h3⟩)
    · exact .inl h
    · exact .inr ⟨a, by omega, h2, h3⟩
  · rintro (h1 | ⟨a, h1, h2, h3⟩)
    · exact .inl h1
    · exact .inr ⟨a, by
        by_cases e : a = t
        · subst e; exact absurd h2 (pB_false.1 h)
        · omega, h2, h3⟩
theorem q_yes {L : List (List Int)} {y t x : Nat} (h : pB L t y = true) : (qB L y (t + 1) x || decide ((x : Int) ∈ L.getD t [])) = qB L y t x := by
  apply bool_iff
  rw [Bool.or_eq_true, qB_true, qB_true, decide_eq_true_eq]
  constructor
  · rintro ((h | ⟨a, h1, h2, h3⟩) | h1)
    · exact .inl h
    · exact .inr ⟨a, by omega, h2, h3⟩
    · exact .inr ⟨t, Nat.le_refl _, pB_true.1 h, h1⟩
  · rintro (h1 | ⟨a, h1, h2, h3⟩)
    · exact .inl (.inl h1)
    · by_cases e : a = t
      · subst e; exact .inr h3
      · exact .inl (.inr ⟨a, by omega, h2, h3⟩)
theorem mem_take_succ {l : List Int} {j : Nat} (hj : j < l.length) (x : Int) : decide (x ∈ l.take (j + 1)) = (decide (x ∈ l.take j) || decide (x = l.getD j 0)) := by
  apply bool_iff
  rw [Bool.or_eq_true, decide_eq_true_eq, decide_eq_true_eq, decide_eq_true_eq, List.take_add_one, List.getElem?_eq_getElem hj, List.mem_append]
  simp [List.getD_eq_getElem?_getD, List.getElem?_eq_getElem hj]
def RaPost (L : List (List Int)) (n : Nat) (b : Int) (w : World) (e : Ending) (w' : World) : Prop :=
  ∃ S, e = .returned (.slice (some ⟨S, 0, none⟩) n n) ∧ BR w' S n (fun x => inB b n && pB L x b.toNat) ∧ Below w.heap.size w w'
set_option maxRecDepth 20000 in
set_option maxHeartbeats 1000000 in
theorem rahead_of (a : Option Addr) (n cap : Nat) (L : List (List Int)) (b : Int) (w : World) (h : MV w (.slice a n cap) L) (hv : Valid L) (hn : n ≤ 1000) :
    Calls Try.prog 18 #[.slice a n cap, .int .i64 b] w (RaPost L n b w) := by
  obtain ⟨hnl, hnc, hcm⟩ := h.len
  have hmk := mk_bools n (by omega)
  obtain ⟨S, hS⟩ : ∃ S, w.heap.size = S := ⟨_, rfl⟩
  have HS := Lib.hid hS
  have HVa := Lib.hid hv
  have H := Lib.hid h
  obtain ⟨W0, hW0⟩ : ∃ W0, w.alloc (boolsObj n) = W0 := ⟨_, rfl⟩
  have hr0 : Hid (BR W0 S n (fun _ => false)) := Lib.hid (by rw [← hW0, ← hS]; exact made_bools n w)
  have hB0 : Hid (Below w.heap.size w W0) := Lib.hid (by rw [← hW0]; go_grown)
  have HW0 := Lib.hid hW0
  clear h hcm hnl hS hW0 hv
  by_cases hb0 : 0 ≤ b
  · by_cases hbn : b < (n : Int)
    · have hb1 : ¬ b < 0 := by omega
      obtain ⟨y, rfl⟩ : ∃ y : Nat, b = (y : Int) := ⟨b.toNat, by omega⟩
      have hy : y < n := by omega
      have hin : Hid (inB (y : Int) n = true) := Lib.hid (by unfold inB; simp; omega)
      obtain ⟨bb, o, ai, ci, rfl, hbl, hcl, hvv⟩ := H.out.row y hy
      obtain ⟨_, hm1, hm2⟩ := hvv.len
      unfold maxLen at hm2
      have HV := Lib.hid hvv
      obtain ⟨m, hm⟩ : ∃ m, (L.getD y []).length = m := ⟨_, rfl⟩
      rw [hm] at hcl HV hm1
      have HM := Lib.hid hm
      have HC := Lib.hid hcl
      clear hvv hm hcl
      go_enter Try.func18, Try.ntmps18
      go_wp2_with fail
      rw [HW0.out, HS.out]
      go_loopw [6] (fun i wr => ∃ (j : Nat), j ≤ m ∧ i = .int .i64 (j : Int) ∧ Hid (BR wr S n (fun x => decide ((x : Int) ∈ (L.getD y []).take j))) ∧ Hid (Below w.heap.size w wr)) (fun i _ => m - (intOf i).toNat)
      case atStart => exact ⟨0, by omega, rfl, Lib.hid (hr0.out.congr fun i _ => by simp), hB0⟩
      case round =>
        clear hr0 hB0 hmk HW0
        obtain ⟨j, hj, rfl, HR, HB⟩ := hrel
        have hcl := (HB.out.cell (p := ⟨bb, o + y, none⟩) hbl).trans HC.out
        by_cases hjl : j < m
        · obtain ⟨b2, o2, rfl, hbl3, hcy⟩ := (HV.out.below HB.out).at j hjl
          obtain ⟨p, hp⟩ : ∃ p, (L.getD y []).getD j 0 = p := ⟨_, rfl⟩
          rw [hp] at hcy
          have hpv := HVa.out y p (by rw [← hp]; exact getD_mem (by rw [HM.out]; exact hjl))
          obtain ⟨c, rfl⟩ : ∃ c : Nat, p = (c : Int) := ⟨p.toNat, by omega⟩
          have hcn : c < n := by omega
          have hcn2 : (c : Int) < (n : Int) := by omega
          have hcz := HR.out.at c _ hcn rfl
          have hfz := World.rowIs.frozen HR.out c
          have HR5 : Hid (BR (wr.setCell ⟨S, c, none⟩ (.bool true)) S n (fun x => decide ((x : Int) ∈ (L.getD y []).take (j + 1)))) := Lib.hid ((HR.out.set c true).congr fun i _ => by
            rw [mem_take_succ (by rw [HM.out]; exact hjl), hp]
            by_cases e : i = c
            · subst e; simp
            · rw [if_neg e]
              have : ¬ ((i : Int) = (c : Int)) := by omega
              simp [this])
          have HB5 := Lib.hid (HB.out.setCell (p := ⟨S, c, none⟩) (by rw [HS.out]; exact Nat.le_refl _) (.bool true))
          clear hp HR HB
          go_wp2_with fail
          go_roundw
          case rel => exact ⟨j + 1, by omega, by go_num, HR5, HB5⟩
          case measure => simp [intOf]; omega
        · obtain rfl : j = m := by omega
          have HR1 : Hid (BR wr S n (qB L y y)) := Lib.hid (HR.out.congr fun i _ => by
            rw [List.take_of_length_le (by rw [HM.out]; omega)]; exact q_start HVa.out y i)
          have HB1 := HB
          clear HR HB
          go_wp2_with fail
          go_loopw [7] (fun i wi => ∃ (t : Nat) (z : Int), t ≤ y ∧ z + 1 = (t : Int) ∧ i = .int .i64 z ∧ Hid (BR wi S n (qB L y t)) ∧ Hid (Below w.heap.size w wi)) (fun i _ => (intOf i + 1).toNat)
          case atStart => exact ⟨y, (y : Int) - 1, by omega, by omega, rfl, HR1, HB1⟩
          case round =>
            clear HR1 HB1 hcl
            obtain ⟨t, z, ht, hz, rfl, HR, HB⟩ := hrel
            by_cases ht0 : 0 < t
            · obtain ⟨u, rfl⟩ : ∃ u, t = u + 1 := ⟨t - 1, by omega⟩
              obtain rfl : z = (u : Int) := by omega
              have hun : u < n := by omega
              have hun2 : (u : Int) < (n : Int) := by omega
              have hcu := HR.out.at u _ hun (q_at HVa.out y u)
              obtain ⟨v, hv⟩ : ∃ v, pB L u y = v := ⟨_, rfl⟩
              rw [hv] at hcu
              have HVV := Lib.hid hv
              clear hv
              cases v with
              | false =>
                have HR5 : Hid (BR wr S n (qB L y u)) := Lib.hid (HR.out.congr fun i _ => q_no HVV.out)
                clear HR
                go_wp2_with fail
                go_roundw
                case rel => exact ⟨u, (u : Int) - 1, by omega, by omega, by go_num, HR5, HB⟩
                case measure => simp [intOf]
              | true =>
                obtain ⟨bb', o', au, cu, eb, hbl', hcl2, hvv⟩ := H.out.row u hun
                cases eb
                obtain ⟨_, hmu1, hmu2⟩ := hvv.len
                unfold maxLen at hmu2
                have HVu := Lib.hid hvv
                obtain ⟨mu, hm⟩ : ∃ m, (L.getD u []).length = m := ⟨_, rfl⟩
                rw [hm] at hcl2 HVu hmu1
                have HMu := Lib.hid hm
                have HCu := Lib.hid hcl2
                have HR0 : Hid (BR wr S n (fun x => qB L y (u + 1) x || decide ((x : Int) ∈ (L.getD u []).take 0))) := Lib.hid (HR.out.congr fun i _ => by simp)
                clear hvv hm hcl2
                go_wp2_with fail
                go_loopw [8] (fun i wi => ∃ (j : Nat), j ≤ mu ∧ i = .int .i64 (j : Int) ∧ Hid (BR wi S n (fun x => qB L y (u + 1) x || decide ((x : Int) ∈ (L.getD u []).take j))) ∧ Hid (Below w.heap.size w wi)) (fun i _ => mu - (intOf i).toNat)
                case atStart => exact ⟨0, by omega, rfl, HR0, HB⟩
                case round =>
                  clear HR HB hcu HR0
                  obtain ⟨j, hj, rfl, HR, HB⟩ := hrel
                  have hcl := (HB.out.cell (p := ⟨bb, o + u, none⟩) hbl).trans HCu.out
                  by_cases hjl : j < mu
                  · obtain ⟨b2, o2, rfl, hbl3, hcy⟩ := (HVu.out.below HB.out).at j hjl
                    obtain ⟨p, hp⟩ : ∃ p, (L.getD u []).getD j 0 = p := ⟨_, rfl⟩
                    rw [hp] at hcy
                    have hpv := HVa.out u p (by rw [← hp]; exact getD_mem (by rw [HMu.out]; exact hjl))
                    obtain ⟨c, rfl⟩ : ∃ c : Nat, p = (c : Int) := ⟨p.toNat, by omega⟩
                    have hcn : c < n := by omega
                    have hcn2 : (c : Int) < (n : Int) := by omega
                    have hcz := HR.out.at c _ hcn rfl
                    have hfz := World.rowIs.frozen HR.out c
                    have HR5 : Hid (BR (wr.setCell ⟨S, c, none⟩ (.bool true)) S n (fun x => qB L y (u + 1) x || decide ((x : Int) ∈ (L.getD u []).take (j + 1)))) := Lib.hid ((HR.out.set c true).congr fun i _ => by
                      rw [mem_take_succ (by rw [HMu.out]; exact hjl), hp]
                      by_cases e : i = c
                      · subst e; simp
                      · rw [if_neg e]
                        have : ¬ ((i : Int) = (c : Int)) := by omega
                        simp [this])
                    have HB5 := Lib.hid (HB.out.setCell (p := ⟨S, c, none⟩) (by rw [HS.out]; exact Nat.le_refl _) (.bool true))
                    clear hp HR HB
                    go_wp2_with fail
                    go_roundw
                    case rel => exact ⟨j + 1, by omega, by go_num, HR5, HB5⟩
                    case measure => simp [intOf]; omega
                  · obtain rfl : j = mu := by omega
                    have HR5 : Hid (BR wr S n (qB L y u)) := Lib.hid (HR.out.congr fun i _ => by
                      rw [List.take_of_length_le (by rw [HMu.out]; omega)]; exact q_yes HVV.out)
                    clear HR
                    go_wp2_with fail
                    go_roundw
                    case rel => exact ⟨u, (u : Int) - 1, by omega, by omega, by go_num, HR5, HB⟩
                    case measure => simp [intOf]
            · obtain rfl : t = 0 := by omega
              obtain rfl : z = -1 := by omega
              go_wp2_with fail
              go_ret
              exact ⟨S, rfl, HR.out.congr fun i _ => by rw [q_end, hin.out, Bool.true_and, Int.toNat_natCast], HB.out⟩
    · have hin : inB b n = false := by unfold inB; simp; omega
      have hb1 : ¬ b < 0 := by omega
      go_enter Try.func18, Try.ntmps18
      go_wp2_with fail
      rw [HW0.out, HS.out]
      go_ret
      exact ⟨S, rfl, hr0.out.congr fun i _ => by rw [hin]; rfl, hB0.out⟩
  · have hin : inB b n = false := by unfold inB; simp; omega
    have hb1 : b < 0 := by omega
    go_enter Try.func18, Try.ntmps18
    go_wp2_with fail
    rw [HW0.out, HS.out]
    go_ret
    exact ⟨S, rfl, hr0.out.congr fun i _ => by rw [hin]; rfl, hB0.out⟩
end Go.Proofs.Ytciojgkgfhpaaaa.rh
