/- Where a label stands, as the document says it; parts of steps (layer 7). -/
import Derived.Test.YtdneblbaofhehaaBdQ
namespace Go.Proofs.Ytdneblbaofhehaa.bd
open Go.ChangeShapes Go.WideShapes Go.ChangeAt Go.RowKit Go.Maps
open Go.Proofs.Ytdneblbaofhehaa.ro
open Go.Proofs.Ytdneblbaofhehaa.pr
open Go.Proofs.Ytdneblbaofhehaa.ins (kb tr3)
attribute [local go_sem ↓] Go.wp_at_zero Go.wp_at_succ
set_option linter.unusedVariables false
set_option linter.unusedSimpArgs false
def plI (b : List St) (s : ByteArray) : Int := match plc b s with
  | none => -1
  | some p => p
theorem plc_ge : ∀ (b : List St) (s : ByteArray) (p : Int), plc b s = some p → 0 ≤ p ∧ p ≤ b.length
  | [], s, p, h => by simp [plc] at h
  | o :: b, s, p, h => by
    rw [plc] at h
    by_cases e : o.k = 2 ∧ o.s = s
    · rw [if_pos e] at h
      cases h
      simp; omega
    · rw [if_neg e] at h
      cases hq : plc b s with
      | none => rw [hq] at h; simp at h
      | some q =>
        rw [hq] at h
        have := plc_ge b s q hq
        have h' : (if o.k = 2 then q else q + 1) = p := by simpa using h
        by_cases e2 : o.k = 2
        · rw [if_pos e2] at h'; simp; omega
        · rw [if_neg e2] at h'; simp; omega
/-- what is left of the search. -/
def PlR (b : List St) (s : ByteArray) (j at_ : Nat) : Prop := plI b s = match plc (b.drop j) s with
  | none => -1
  | some p => p + (at_ : Int)
theorem drop_at {b : List St} {j : Nat} {o : St} (h : b[j]? = some o) : b.drop j = o :: b.drop (j + 1) := by
  have hl := (List.getElem?_eq_some_iff.1 h).1
  rw [List.drop_eq_getElem_cons hl]
  congr 1
  rw [List.getElem?_eq_getElem hl] at h
  exact Option.some.inj h
theorem PlR.zero (b : List St) (s : ByteArray) : PlR b s 0 0 := by
  unfold PlR plI
  rw [List.drop_zero]
  cases plc b s <;> simp
theorem PlR.hit {b : List St} {s : ByteArray} {j at_ : Nat} {o : St} (h : PlR b s j at_) (ho : b[j]? = some o) (h2 : o.k = 2) (hs : o.s = s) : plI b s = (at_ : Int) := by
  unfold PlR at h
  rw [drop_at ho, plc, if_pos ⟨h2, hs⟩] at h
  rw [h]
  simp
theorem PlR.lab {b : List St} {s : ByteArray} {j at_ : Nat} {o : St} (h : PlR b s j at_) (ho : b[j]? = some o) (h2 : o.k = 2) (hs : ¬ o.s = s) : PlR b s (j + 1) at_ := by
  unfold PlR at h ⊢
  rw [drop_at ho, plc, if_neg (fun h => hs h.2)] at h
  rw [h]
  cases plc (b.drop (j + 1)) s <;> simp [h2]
theorem PlR.more {b : List St} {s : ByteArray} {j at_ : Nat} {o : St} (h : PlR b s j at_) (ho : b[j]? = some o) (h2 : ¬ o.k = 2) : PlR b s (j + 1) (at_ + 1) := by
  unfold PlR at h ⊢
  rw [drop_at ho, plc, if_neg (fun h => h2 h.1)] at h
  rw [h]
  cases plc (b.drop (j + 1)) s with
  | none => rfl
  | some p =>
    show (if o.k = 2 then p else p + 1) + (at_ : Int) = p + ((at_ + 1 : Nat) : Int)
    rw [if_neg h2]
    omega
theorem PlR.end {b : List St} {s : ByteArray} {j at_ : Nat} (h : PlR b s j at_) (hj : j = b.length) : plI b s = -1 := by
  unfold PlR at h
  rw [hj, List.drop_length] at h
  exact h
set_option maxRecDepth 20000 in
set_option maxHeartbeats 4000000 in
theorem place_v (a : Option Addr) (n c : Nat) (l : List St) (s : ByteArray) (w : World) (h : RV 7 enO w (.slice a n c) l) (hn : n ≤ 300) :
    Calls Try.prog 21 #[.slice a n c, .string s] w fun e w' => e = .returned (.int .i64 (plI l s)) ∧ w' = w := by
  obtain ⟨hnl, hnc, hcm⟩ := h.len
  unfold maxLen at hcm
  have HR0 := Lib.hid h
  have HNL := Lib.hid hnl
  clear h hnl
  go_enter Try.func21, Try.ntmps21
  go_wp2_with fail
  go_loopw [5, 6] (fun tv iv wr => ∃ (k at_ : Nat), k ≤ n ∧ at_ ≤ k ∧ tv = .int .i64 (at_ : Int) ∧ iv = .int .i64 (k : Int) ∧ Hid (PlR l s k at_) ∧ Hid (wr = w)) (fun tv iv _ => n - (intOf iv).toNat)
  case atStart => exact ⟨0, 0, Nat.zero_le _, Nat.zero_le _, rfl, rfl, Lib.hid (PlR.zero l s), Lib.hid rfl⟩
  case round =>
    obtain ⟨k, at_, hk, hat, rfl, rfl, HP, HW⟩ := hrel
    obtain rfl := HW.out
    by_cases hlt : k < n
    · obtain ⟨o, ho⟩ : ∃ o, l[k]? = some o := ⟨_, List.getElem?_eq_getElem (by rw [← HNL.out]; exact hlt)⟩
      obtain ⟨b, f, rfl, hbl, c0, c1, c2, c3, c4, c5, c6⟩ := RV.seven HR0.out k o ho
      have hltI : (k : Int) < (n : Int) := by omega
      by_cases h2 : o.k = 2
      · rw [h2] at c0
        by_cases hs : o.s = s
        · rw [hs] at c2
          have HV := Lib.hid (HP.out.hit ho h2 hs)
          clear ho h2 hs c1 c3 c4 c5 c6 HP
          go_wp2_with fail
          go_ret
          exact ⟨by rw [HV.out]; rfl, rfl⟩
        · have hs2 := str_ne hs
          have HP1 := Lib.hid (HP.out.lab ho h2 hs)
          obtain ⟨nm, hnm⟩ : ∃ nm, o.s = nm := ⟨_, rfl⟩
          rw [hnm] at c2 hs2
          clear ho h2 hs c1 c3 c4 c5 c6 HP hnm
          go_wp2_with fail
          go_roundw
          case rel => exact ⟨k + 1, at_, by omega, by omega, rfl, by go_num, HP1, Lib.hid (by first | trivial | rfl)⟩
          case measure => simp [intOf]; omega
      · have h2b : (o.k == 2) = false := by simpa using h2
        have h2c : (o.k != 2) = true := by simpa using h2
        have HP1 := Lib.hid (HP.out.more ho h2)
        obtain ⟨kd, hkd⟩ : ∃ kd, o.k = kd := ⟨_, rfl⟩
        rw [hkd] at c0 h2 h2b h2c
        clear ho c1 c2 c3 c4 c5 c6 HP hkd
        go_wp2_with fail
        go_roundw
        case rel => exact ⟨k + 1, at_ + 1, by omega, by omega, by go_num, by go_num, HP1, Lib.hid (by first | trivial | rfl)⟩
        case measure => simp [intOf]; omega
    · obtain rfl : n = k := by omega
      have HV := Lib.hid (HP.out.end HNL.out)
      clear HP
      go_wp2_with fail
      go_ret
      exact ⟨by rw [HV.out]; rfl, rfl⟩
/-- a part of the steps. -/
theorem RV.part {w : World} {b f n c : Nat} {l : List St} (h : RV 7 enO w (.slice (some ⟨b, f, none⟩) n c) l) {i t : Nat} (hi : i + t ≤ n) : RV 7 enO w (.slice (some ⟨b, f + i * 7, none⟩) t (c - i)) ((l.drop i).take t) := by
  obtain ⟨h1, h2, h3⟩ := h.len
  have hl : ((l.drop i).take t).length = t := by rw [List.length_take, List.length_drop]; omega
  refine ⟨some ⟨b, f + i * 7, none⟩, c - i, by rw [hl], by rw [hl]; omega, by omega, fun e => by simp at e, fun j x hx => ?_⟩
  have hj : j < t := by have := (List.getElem?_eq_some_iff.1 hx).1; rw [hl] at this; exact this
  rw [List.getElem?_take_of_lt hj, List.getElem?_drop] at hx
  obtain ⟨b', f', e, hlt, hc⟩ := h.at (i + j) x hx
  rw [Option.some.injEq, Addr.mk.injEq] at e
  obtain ⟨rfl, rfl, _⟩ := e
  refine ⟨b, f + i * 7, rfl, hlt, fun q u hu => ?_⟩
  rw [← hc q u hu]
  congr 2
  rw [Nat.add_mul]
  omega
theorem RV.none0 {w : World} {a : Option Addr} {c : Nat} (hc : c ≤ maxLen) (ha : a = none → c = 0) : RV 7 enO w (.slice a 0 c) ([] : List St) := ⟨a, c, rfl, Nat.zero_le _, hc, ha, fun i x hx => by simp at hx⟩
def nz (q : St) : Bool := decide (q.k ≠ 0)
theorem tw_lt : ∀ (l : List St) (t : Nat), t < (l.takeWhile nz).length → ∃ o, l[t]? = some o ∧ o.k ≠ 0
  | [], t, h => by simp at h
  | o :: l, t, h => by
    by_cases e : o.k = 0
    · simp [List.takeWhile_cons, nz, e] at h
    · have e1 : (o :: l).takeWhile nz = o :: l.takeWhile nz := by simp [List.takeWhile_cons, nz, e]
      rw [e1] at h
      cases t with
      | zero => exact ⟨o, rfl, e⟩
      | succ t =>
        obtain ⟨q, h1, h2⟩ := tw_lt l t (by simp at h; exact h)
        exact ⟨q, by simpa using h1, h2⟩
theorem tw_end : ∀ (l : List St), l[(l.takeWhile nz).length]? = none ∨ ∃ o, l[(l.takeWhile nz).length]? = some o ∧ o.k = 0
  | [] => .inl (by simp)
  | o :: l => by
    by_cases e : o.k = 0
    · exact .inr ⟨o, by simp [List.takeWhile_cons, nz, e], e⟩
    · have e1 : (o :: l).takeWhile nz = o :: l.takeWhile nz := by simp [List.takeWhile_cons, nz, e]
      rw [e1, List.length_cons, List.getElem?_cons_succ]
      exact tw_end l
theorem tw_take : ∀ (l : List St), l.takeWhile nz = l.take (l.takeWhile nz).length
  | [] => rfl
  | o :: l => by
    by_cases e : o.k = 0
    · simp [List.takeWhile_cons, nz, e]
    · have e1 : (o :: l).takeWhile nz = o :: l.takeWhile nz := by simp [List.takeWhile_cons, nz, e]
      rw [e1, List.length_cons, List.take_succ_cons, ← tw_take l]
theorem segs_0 {l : List St} {k : Nat} {o : St} (ho : l[k]? = some o) (h : o.k = 0) : segs (l.drop k) = (l.drop (k + 1)).takeWhile nz :: segs (l.drop (k + 1)) := by
  rw [drop_at ho, segs, if_pos h]
  rfl
theorem segs_1 {l : List St} {k : Nat} {o : St} (ho : l[k]? = some o) (h : ¬ o.k = 0) : segs (l.drop k) = segs (l.drop (k + 1)) := by
  rw [drop_at ho, segs, if_neg h]
end Go.Proofs.Ytdneblbaofhehaa.bd
