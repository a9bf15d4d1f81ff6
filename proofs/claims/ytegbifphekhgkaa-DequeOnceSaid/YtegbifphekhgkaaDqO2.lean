/- A deque that is played at: the program's steps and what holds of them, side by side (layer 13). -/
import Derived.Test.YtegbifphekhgkaaDqO
import Derived.Test.YtegbifphekhgkaaDqK
namespace Go.Proofs.Ytegbifphekhgkaa.DO
open Go.Proofs.Ytegbifphekhgkaa
open Go.ChangeShapes Go.WideShapes Go.ChangeAt Go.RowKit
set_option linter.unusedSectionVars false
set_option linter.unusedVariables false
set_option linter.unusedSimpArgs false
def cd (A : Nat) : Pc → Value
  | .idle => .nilFunc
  | .pushLook => fnV A 51
  | .pushPut => fnV A 76
  | .pushShow => fnV A 96
  | .popClaim => fnV A 52
  | .popLook => fnV A 78
  | .popYield => fnV A 98
  | .popAsk => fnV A 110
  | .popWait => fnV A 115
  | .popClaimAgain => fnV A 117
  | .popLookAgain => fnV A 120
  | .popLeave => fnV A 122
  | .popYieldAgain => fnV A 123
  | .popGiveUp => fnV A 125
  | .popTake => fnV A 97
  | .ask => fnV A 53
  | .wait => fnV A 80
  | .look => fnV A 101
  | .claim => fnV A 113
  | .check => fnV A 116
  | .yield => fnV A 118
  | .take => fnV A 119
  | .leave => fnV A 121
/-- An agent and the walk's object. -/
structure AgR (A P D : Nat) (a : Ag) (o : Wk) : Prop where
  D : o.D = D
  k : o.k = 1
  tl : o.tl = a.tl
  x : o.x = a.x
  hd : o.hd = a.hd
  tn : o.tn = a.tn
  ta : tick a.pc = true → o.ta = ((P + 2 : Nat) : Int)
  gt : o.gt = a.gt
  hs : o.hs = a.hs
  fl : o.fl = a.fl
  nx : o.nx = cd A a.pc
/-- what the play's variables hold. -/
structure Lv where
  T : Nat
  nx : Nat
  pops : Bool
  pushed : List Int
  popped : List Int
  stolen : List Int
  stack : List Int
def Ps.lv (p : Ps) : Lv := ⟨p.T, p.nx, p.pops, p.pushed, p.popped, p.stolen, p.stack⟩
/-- what a step of k comes to. -/
def Out (k : Nat) (l l' : Lv) (a : Ag) : Prop :=
  (a.pc ≠ .idle ∧ l' = l) ∨
  (a.pc = .idle ∧ k ≠ 0 ∧ a.hs = true ∧ l' = { l with stolen := l.stolen ++ [a.gt] }) ∨
  (a.pc = .idle ∧ k ≠ 0 ∧ a.hs = false ∧ l' = l) ∨
  (a.pc = .idle ∧ k = 0 ∧ a.tl = l'.T ∧
    ((l.pops = false ∧ a.fl = true ∧ l' = l) ∨
     (l.pops = false ∧ a.fl = false ∧ l' = { l with T := l.T + 1, nx := l.nx + 1, pushed := l.pushed ++ [(l.nx : Int)], stack := l.stack ++ [(l.nx : Int)] }) ∨
     (l.pops = true ∧ a.hs = true ∧ 0 < l.stack.length ∧ l.stack.getD (l.stack.length - 1) 0 = a.gt ∧ 1 ≤ l.T ∧ l' = { l with T := l.T - 1, popped := l.popped ++ [a.gt], stack := l.stack.take (l.stack.length - 1) }) ∨
     (l.pops = true ∧ a.hs = false ∧ l' = { l with stack := [] })))
structure Pair (S g A P D : Nat) (m : Mem) (ag : Nat → Ag) (p : Ps) (k : Nat) (xs : List Int) (o : Wk) (xs' : List Int) (o' : Wk) (m' : Mem) (a' : Ag) (p' : Ps) : Prop where
  st : StepC S g A xs o xs' o'
  ar : AgR A P D a' o'
  dq : Dq P D xs' m'.h m'.t m'.tk m'.sv m'.sl
  len : xs'.length = xs.length
  tk : m'.tk ≤ m.tk + 1
  s0 : 0 ≤ m'.sv
  mv : Mv m m' (ag k) a'
  inv : Inv D m' (upd ag k a') p'
  out : Out k p.lv p'.lv a'
  nb : p'.nx ≤ p.nx + 1
theorem upd_self (ag : Nat → Ag) (k : Nat) : upd ag k (ag k) = ag := by funext j; unfold upd; split <;> simp_all
theorem congrK' {P D : Nat} {xs : List Int} {h t k k' s : Int} {f : Nat → Int} (q : Dq P D xs h t k s f) (e : k = k') : Dq P D xs h t k' s f := e ▸ q
theorem congrH {P D : Nat} {xs : List Int} {h h' t k s : Int} {f : Nat → Int} (q : Dq P D xs h t k s f) (e : h = h') : Dq P D xs h' t k s f := e ▸ q
theorem congrT {P D : Nat} {xs : List Int} {h t t' k s : Int} {f : Nat → Int} (q : Dq P D xs h t k s f) (e : t = t') : Dq P D xs h t' k s f := e ▸ q
theorem congrS {P D : Nat} {xs : List Int} {h t k s : Int} {f f' : Nat → Int} (q : Dq P D xs h t k s f) (e : f = f') : Dq P D xs h t k s f' := e ▸ q
theorem mkPair {S g A P D : Nat} {m : Mem} {ag : Nat → Ag} {p : Ps} {k : Nat} {xs : List Int} {o : Wk} {xs' : List Int} {o' : Wk} {m' : Mem} {a' : Ag} {p' : Ps} (inv : Inv D m' (upd ag k a') p') (st : StepC S g A xs o xs' o') (ar : AgR A P D a' o') (dq : Dq P D xs' m'.h m'.t m'.tk m'.sv m'.sl) (len : xs'.length = xs.length) (tk : m'.tk ≤ m.tk + 1) (s0 : 0 ≤ m'.sv) (mv : Mv m m' (ag k) a') (out : Out k p.lv p'.lv a') (nb : p'.nx ≤ p.nx + 1) :
    ∃ xs' o' m' a' p', Pair S g A P D m ag p k xs o xs' o' m' a' p' := ⟨_, _, _, _, _, ⟨st, ar, dq, len, tk, s0, mv, inv, out, nb⟩⟩
section
variable {S g A P D k : Nat} {m : Mem} {ag : Nat → Ag} {p : Ps} {xs : List Int} {o : Wk}
  (h : Inv D m ag p) (hr : AgR A P D (ag k) o) (q : Dq P D xs m.h m.t m.tk m.sv m.sl) (hO : ∀ o : Wk, o.D = D → o.k = 1 → WOk o P xs.length)
  (b0 : 0 ≤ m.sv) (b1 : m.tk ≤ 1000) (b2 : p.T ≤ 1000)
include h hr q hO b0 b1 b2
theorem p_ask (k1 : 1 ≤ k) (k4 : k < 4) (hp : (ag k).pc = .ask) : ∃ xs' o' m' a' p', Pair S g A P D m ag p k xs o xs' o' m' a' p' := by
  have hw : wrap64 (m.tk + 1) = m.tk + 1 := by have := h.le; unfold wrap64; omega
  exact mkPair (t_ask h k k1 k4 hp) (s_stealAsk S g A P xs o _ (hO _ hr.D hr.k) (Lib.hid q.ka) (hr.nx.trans (by rw [hp]; rfl))) ⟨hr.D, hr.k, hr.tl, hr.x, hr.hd, rfl, fun _ => rfl, hr.gt, hr.hs, hr.fl, rfl⟩ (congrK' (q.set2 _) hw) (by rw [List.length_set]) (Int.le_refl _) b0 (Or.inl ⟨by simp [hp, rank], Or.inl rfl⟩) (Or.inl ⟨by simp, rfl⟩) (Nat.le_add_right _ _)
theorem p_wait_yes (k1 : 1 ≤ k) (k4 : k < 4) (hp : (ag k).pc = .wait) (hv : m.sv = (ag k).tn) : ∃ xs' o' m' a' p', Pair S g A P D m ag p k xs o xs' o' m' a' p' := by
  exact mkPair (t_wait h k k1 k4 hp hv) (s_stealWait S g A P xs o (hO _ hr.D hr.k) (hr.ta (by simp [hp, tick])) (Lib.hid (q.sv.trans (hv.trans hr.tn.symm))) (hr.nx.trans (by rw [hp]; rfl))) ⟨hr.D, hr.k, hr.tl, hr.x, hr.hd, hr.tn, fun _ => hr.ta (by simp [hp, tick]), hr.gt, hr.hs, hr.fl, rfl⟩ q rfl (Int.le_add_of_nonneg_right (by omega)) b0 (Or.inl ⟨by simp [hp, rank], Or.inl rfl⟩) (Or.inl ⟨by simp, rfl⟩) (Nat.le_add_right _ _)
theorem p_wait_no (k1 : 1 ≤ k) (k4 : k < 4) (hp : (ag k).pc = .wait) (hv : ¬ m.sv = (ag k).tn) : ∃ xs' o' m' a' p', Pair S g A P D m ag p k xs o xs' o' m' a' p' := by
  exact mkPair ((show Inv D m (upd ag k (ag k)) p from (upd_self ag k).symm ▸ h)) (s_stealWait_no S g A P xs o _ (hO _ hr.D hr.k) (hr.ta (by simp [hp, tick])) (Lib.hid q.sv) (by rw [hr.tn]; exact hv) (hr.nx.trans (by rw [hp]; rfl))) hr q rfl (Int.le_add_of_nonneg_right (by omega)) b0 (Or.inr ⟨rfl, rfl, fun hm => hv (hm.2 (by simp [hp, waits])).symm⟩) (Or.inl ⟨by simp [hp], rfl⟩) (Nat.le_add_right _ _)
theorem p_look (k1 : 1 ≤ k) (k4 : k < 4) (hp : (ag k).pc = .look) : ∃ xs' o' m' a' p', Pair S g A P D m ag p k xs o xs' o' m' a' p' := by
  exact mkPair (t_look h k k1 k4 hp) (s_stealLook S g A P xs o _ (hO _ hr.D hr.k) (Lib.hid q.hd) (hr.nx.trans (by rw [hp]; rfl))) ⟨hr.D, hr.k, hr.tl, hr.x, rfl, hr.tn, fun _ => hr.ta (by simp [hp, tick]), hr.gt, hr.hs, hr.fl, rfl⟩ q rfl (Int.le_add_of_nonneg_right (by omega)) b0 (Or.inl ⟨by simp [hp, rank], Or.inl rfl⟩) (Or.inl ⟨by simp, rfl⟩) (Nat.le_add_right _ _)
theorem p_claim (k1 : 1 ≤ k) (k4 : k < 4) (hp : (ag k).pc = .claim) : ∃ xs' o' m' a' p', Pair S g A P D m ag p k xs o xs' o' m' a' p' := by
  have hd := (h.th k k1 k4).hd (by simp [hp])
  have HT := h.ls.HT
  have e := hr.hd
  exact mkPair (t_claim h k k1 k4 hp) (s_stealClaim S g A P xs o _ (hO _ hr.D hr.k) (by omega) (by omega) (Lib.hid rfl) (hr.nx.trans (by rw [hp]; rfl))) ⟨hr.D, hr.k, hr.tl, hr.x, hr.hd, hr.tn, fun _ => hr.ta (by simp [hp, tick]), hr.gt, hr.hs, hr.fl, rfl⟩ (congrH (q.set0 _) (by rw [hr.hd])) (by rw [List.length_set]) (Int.le_add_of_nonneg_right (by omega)) b0 (Or.inl ⟨by simp [hp, rank], Or.inl rfl⟩) (Or.inl ⟨by simp, rfl⟩) (Nat.le_add_right _ _)
theorem p_check_yes (k1 : 1 ≤ k) (k4 : k < 4) (hp : (ag k).pc = .check) (hv : m.t ≤ (ag k).hd) : ∃ xs' o' m' a' p', Pair S g A P D m ag p k xs o xs' o' m' a' p' := by
  have hd := (h.th k k1 k4).hd (by simp [hp])
  have HT := h.ls.HT
  have e := hr.hd
  exact mkPair (t_check_yes h k k1 k4 hp) (s_stealCheck_yes S g A P xs o _ (hO _ hr.D hr.k) (by omega) (by omega) (Lib.hid q.tl) (by rw [hr.hd]; exact hv) (hr.nx.trans (by rw [hp]; rfl))) ⟨hr.D, hr.k, hr.tl, hr.x, hr.hd, hr.tn, fun _ => hr.ta (by simp [hp, tick]), hr.gt, hr.hs, hr.fl, rfl⟩ q rfl (Int.le_add_of_nonneg_right (by omega)) b0 (Or.inl ⟨by simp [hp, rank], Or.inl rfl⟩) (Or.inl ⟨by simp, rfl⟩) (Nat.le_add_right _ _)
theorem p_check_no (k1 : 1 ≤ k) (k4 : k < 4) (hp : (ag k).pc = .check) (hv : ¬ m.t ≤ (ag k).hd) : ∃ xs' o' m' a' p', Pair S g A P D m ag p k xs o xs' o' m' a' p' := by
  have hd := (h.th k k1 k4).hd (by simp [hp])
  have HT := h.ls.HT
  have e := hr.hd
  exact mkPair (t_check_no h k k1 k4 hp hv) (s_stealCheck_no S g A P xs o _ (hO _ hr.D hr.k) (by omega) (by omega) (Lib.hid q.tl) (by rw [hr.hd]; exact hv) (hr.nx.trans (by rw [hp]; rfl))) ⟨hr.D, hr.k, hr.tl, hr.x, hr.hd, hr.tn, fun _ => hr.ta (by simp [hp, tick]), hr.gt, hr.hs, hr.fl, rfl⟩ q rfl (Int.le_add_of_nonneg_right (by omega)) b0 (Or.inl ⟨by simp [hp, rank], Or.inl rfl⟩) (Or.inl ⟨by simp, rfl⟩) (Nat.le_add_right _ _)
theorem p_yield (k1 : 1 ≤ k) (k4 : k < 4) (hp : (ag k).pc = .yield) : ∃ xs' o' m' a' p', Pair S g A P D m ag p k xs o xs' o' m' a' p' := by
  have hd := (h.th k k1 k4).hd (by simp [hp])
  have HT := h.ls.HT
  have e := hr.hd
  exact mkPair (t_yield h k k1 k4 hp) (s_stealYield S g A P xs o _ (hO _ hr.D hr.k) (by omega) (by omega) (Lib.hid rfl) (hr.nx.trans (by rw [hp]; rfl))) ⟨hr.D, hr.k, hr.tl, hr.x, hr.hd, hr.tn, fun _ => hr.ta (by simp [hp, tick]), hr.gt, hr.hs, hr.fl, rfl⟩ (congrH (q.set0 _) hr.hd) (by rw [List.length_set]) (Int.le_add_of_nonneg_right (by omega)) b0 (Or.inl ⟨by simp [hp, rank], Or.inl rfl⟩) (Or.inl ⟨by simp, rfl⟩) (Nat.le_add_right _ _)
theorem p_take (k1 : 1 ≤ k) (k4 : k < 4) (hp : (ag k).pc = .take) : ∃ xs' o' m' a' p', Pair S g A P D m ag p k xs o xs' o' m' a' p' := by
  have hd := (h.th k k1 k4).hd (by simp [hp])
  have HT := h.ls.HT
  have e := hr.hd
  have D2 := h.D2
  exact mkPair (t_take h k k1 k4 hp) (s_stealTake S g A P xs o (p.H % D) _ (hO _ hr.D hr.k) (by omega) (Lib.hid (by rw [hr.hd, hd, hr.D]; exact tmod_nat _ _)) (by rw [hr.D]; exact Nat.mod_lt _ (by omega)) (Lib.hid (q.sl _ (Nat.mod_lt _ (by omega)))) (hr.nx.trans (by rw [hp]; rfl))) ⟨hr.D, hr.k, hr.tl, hr.x, hr.hd, hr.tn, fun _ => hr.ta (by simp [hp, tick]), rfl, rfl, hr.fl, rfl⟩ q rfl (Int.le_add_of_nonneg_right (by omega)) b0 (Or.inl ⟨by simp [hp, rank], Or.inl rfl⟩) (Or.inl ⟨by simp, rfl⟩) (Nat.le_add_right _ _)
theorem p_leave_no (k1 : 1 ≤ k) (k4 : k < 4) (hp : (ag k).pc = .leave) (hv : (ag k).hs = false) : ∃ xs' o' m' a' p', Pair S g A P D m ag p k xs o xs' o' m' a' p' := by
  have hk := h.lk.rg k (by omega) (by simp [hp, tick])
  have hk2 := h.lk.lk k (by omega) (by simp [hp, lock])
  have hw : wrap64 (o.tn + 1) = m.sv + 1 := by rw [hr.tn]; have := h.le; unfold wrap64; omega
  exact mkPair (t_leave h k k1 k4 hp hv) (s_stealLeave S g A P xs o _ (hO _ hr.D hr.k) (hr.ta (by simp [hp, tick])) (Lib.hid hw) (hr.nx.trans (by rw [hp]; rfl))) ⟨hr.D, hr.k, hr.tl, hr.x, hr.hd, hr.tn, fun hh => by simp [tick] at hh, hr.gt, hr.hs, hr.fl, rfl⟩ (q.set3 _) (by rw [List.length_set]) (Int.le_add_of_nonneg_right (by omega)) (by show 0 ≤ m.sv + 1; omega) (Or.inl ⟨by simp [hp, rank], Or.inr (by simp [hp, lock])⟩) (Or.inr (Or.inr (Or.inl ⟨rfl, by omega, hv, rfl⟩))) (Nat.le_add_right _ _)
theorem p_leave_got (k1 : 1 ≤ k) (k4 : k < 4) (hp : (ag k).pc = .leave) (hv : (ag k).hs = true) : ∃ xs' o' m' a' p', Pair S g A P D m ag p k xs o xs' o' m' a' p' := by
  have hk := h.lk.rg k (by omega) (by simp [hp, tick])
  have hk2 := h.lk.lk k (by omega) (by simp [hp, lock])
  have hw : wrap64 (o.tn + 1) = m.sv + 1 := by rw [hr.tn]; have := h.le; unfold wrap64; omega
  exact mkPair (t_left h k k1 k4 hp hv) (s_stealLeave S g A P xs o _ (hO _ hr.D hr.k) (hr.ta (by simp [hp, tick])) (Lib.hid hw) (hr.nx.trans (by rw [hp]; rfl))) ⟨hr.D, hr.k, hr.tl, hr.x, hr.hd, hr.tn, fun hh => by simp [tick] at hh, hr.gt, hr.hs, hr.fl, rfl⟩ (q.set3 _) (by rw [List.length_set]) (Int.le_add_of_nonneg_right (by omega)) (by show 0 ≤ m.sv + 1; omega) (Or.inl ⟨by simp [hp, rank], Or.inr (by simp [hp, lock])⟩) (Or.inr (Or.inl ⟨rfl, by omega, hv, rfl⟩)) (Nat.le_add_right _ _)
theorem q_push_full (k0 : k = 0) (hp : (ag k).pc = .pushLook) (hv : m.h ≤ (ag k).tl - ((D : Int) - 1)) : ∃ xs' o' m' a' p', Pair S g A P D m ag p k xs o xs' o' m' a' p' := by
  subst k0
  have tl := h.ow.tl (by simp [hp])
  have e := hr.tl
  have HT := h.ls.HT
  have wx := h.ow.wx (by simp [hp])
  exact mkPair (o_push_full h hp) (s_pushLook_yes S g A P xs o _ (hO _ hr.D hr.k) (by omega) (by omega) (Lib.hid q.hd) (by rw [hr.tl, hr.D]; exact hv) (hr.nx.trans (by rw [hp]; rfl))) ⟨hr.D, hr.k, hr.tl, hr.x, hr.hd, hr.tn, fun hh => by simp [tick] at hh, hr.gt, hr.hs, rfl, rfl⟩ q rfl (Int.le_add_of_nonneg_right (by omega)) b0 (Or.inl ⟨by simp [hp, rank], Or.inl rfl⟩) (Or.inr (Or.inr (Or.inr ⟨rfl, rfl, tl, Or.inl ⟨wx.2, rfl, rfl⟩⟩))) (Nat.le_add_right _ _)
theorem q_push_look (k0 : k = 0) (hp : (ag k).pc = .pushLook) (hv : ¬ m.h ≤ (ag k).tl - ((D : Int) - 1)) : ∃ xs' o' m' a' p', Pair S g A P D m ag p k xs o xs' o' m' a' p' := by
  subst k0
  have tl := h.ow.tl (by simp [hp])
  have e := hr.tl
  have HT := h.ls.HT
  exact mkPair (o_push_look h hp hv) (s_pushLook_no S g A P xs o _ (hO _ hr.D hr.k) (by omega) (by omega) (Lib.hid q.hd) (by rw [hr.tl, hr.D]; exact hv) (hr.nx.trans (by rw [hp]; rfl))) ⟨hr.D, hr.k, hr.tl, hr.x, hr.hd, hr.tn, fun hh => by simp [tick] at hh, hr.gt, hr.hs, hr.fl, rfl⟩ q rfl (Int.le_add_of_nonneg_right (by omega)) b0 (Or.inl ⟨by simp [hp, rank], Or.inl rfl⟩) (Or.inl ⟨by simp, rfl⟩) (Nat.le_add_right _ _)
theorem q_push_put (k0 : k = 0) (hp : (ag k).pc = .pushPut) : ∃ xs' o' m' a' p', Pair S g A P D m ag p k xs o xs' o' m' a' p' := by
  subst k0
  have tl := h.ow.tl (by simp [hp])
  have e := hr.tl
  have HT := h.ls.HT
  have D2 := h.D2
  exact mkPair (o_push_put h hp) (s_pushPut S g A P (p.T % D) xs o (hO _ hr.D hr.k) (by omega) (by omega) (Lib.hid (by rw [hr.tl, tl, hr.D]; exact tmod_nat _ _)) (by rw [hr.D]; exact Nat.mod_lt _ (by omega)) (hr.nx.trans (by rw [hp]; rfl))) ⟨hr.D, hr.k, hr.tl, hr.x, hr.hd, hr.tn, fun hh => by simp [tick] at hh, hr.gt, hr.hs, hr.fl, rfl⟩ (congrS (q.setS _ _ (Nat.mod_lt _ (by omega))) (by rw [hr.x]; rfl)) (by rw [List.length_set]) (Int.le_add_of_nonneg_right (by omega)) b0 (Or.inl ⟨by simp [hp, rank], Or.inl rfl⟩) (Or.inl ⟨by simp, rfl⟩) (Nat.le_add_right _ _)
theorem q_push_show (k0 : k = 0) (hp : (ag k).pc = .pushShow) : ∃ xs' o' m' a' p', Pair S g A P D m ag p k xs o xs' o' m' a' p' := by
  subst k0
  have tl := h.ow.tl (by simp [hp])
  have e := hr.tl
  have HT := h.ls.HT
  have wx := h.ow.wx (by simp [hp])
  have fl := h.ow.fl (by simp [hp])
  exact mkPair (o_push_show h hp) (s_pushShow S g A P xs o _ (hO _ hr.D hr.k) (by omega) (by omega) (Lib.hid rfl) (hr.nx.trans (by rw [hp]; rfl))) ⟨hr.D, hr.k, by rw [hr.tl], hr.x, hr.hd, hr.tn, fun hh => by simp [tick] at hh, hr.gt, hr.hs, hr.fl, rfl⟩ (congrT (q.set1 _) (by rw [hr.tl])) (by rw [List.length_set]) (Int.le_add_of_nonneg_right (by omega)) b0 (Or.inl ⟨by simp [hp, rank], Or.inl rfl⟩) (Or.inr (Or.inr (Or.inr ⟨rfl, rfl, by show (ag 0).tl + 1 = ((p.T + 1 : Nat) : Int); omega, Or.inr (Or.inl ⟨wx.2, fl, rfl⟩)⟩))) (Nat.le_refl _)
theorem q_popClaim (k0 : k = 0) (hp : (ag k).pc = .popClaim) : ∃ xs' o' m' a' p', Pair S g A P D m ag p k xs o xs' o' m' a' p' := by
  subst k0
  have tl := h.ow.tl (by simp [hp])
  have e := hr.tl
  have HT := h.ls.HT
  exact mkPair (o_popClaim h hp) (s_popClaim S g A P xs o _ (hO _ hr.D hr.k) (by omega) (by omega) (Lib.hid rfl) (hr.nx.trans (by rw [hp]; rfl))) ⟨hr.D, hr.k, hr.tl, hr.x, hr.hd, hr.tn, fun hh => by simp [tick] at hh, hr.gt, hr.hs, hr.fl, rfl⟩ (congrT (q.set1 _) (by rw [hr.tl])) (by rw [List.length_set]) (Int.le_add_of_nonneg_right (by omega)) b0 (Or.inl ⟨by simp [hp, rank], Or.inl rfl⟩) (Or.inl ⟨by simp, rfl⟩) (Nat.le_add_right _ _)
theorem q_popYield (k0 : k = 0) (hp : (ag k).pc = .popYield) : ∃ xs' o' m' a' p', Pair S g A P D m ag p k xs o xs' o' m' a' p' := by
  subst k0
  have tl := h.ow.tl (by simp [hp])
  have e := hr.tl
  have HT := h.ls.HT
  exact mkPair (o_popYield h hp) (s_popYield S g A P xs o _ (hO _ hr.D hr.k) (by omega) (by omega) (Lib.hid rfl) (hr.nx.trans (by rw [hp]; rfl))) ⟨hr.D, hr.k, hr.tl, hr.x, hr.hd, hr.tn, fun hh => by simp [tick] at hh, hr.gt, hr.hs, hr.fl, rfl⟩ (congrT (q.set1 _) (by rw [hr.tl])) (by rw [List.length_set]) (Int.le_add_of_nonneg_right (by omega)) b0 (Or.inl ⟨by simp [hp, rank], Or.inl rfl⟩) (Or.inl ⟨by simp, rfl⟩) (Nat.le_add_right _ _)
theorem q_popClaimAgain (k0 : k = 0) (hp : (ag k).pc = .popClaimAgain) : ∃ xs' o' m' a' p', Pair S g A P D m ag p k xs o xs' o' m' a' p' := by
  subst k0
  have tl := h.ow.tl (by simp [hp])
  have e := hr.tl
  have HT := h.ls.HT
  exact mkPair (o_popClaimAgain h hp) (s_popClaimAgain S g A P xs o _ (hO _ hr.D hr.k) (by omega) (by omega) (Lib.hid rfl) (hr.nx.trans (by rw [hp]; rfl))) ⟨hr.D, hr.k, hr.tl, hr.x, hr.hd, hr.tn, fun _ => hr.ta (by simp [hp, tick]), hr.gt, hr.hs, hr.fl, rfl⟩ (congrT (q.set1 _) (by rw [hr.tl])) (by rw [List.length_set]) (Int.le_add_of_nonneg_right (by omega)) b0 (Or.inl ⟨by simp [hp, rank], Or.inl rfl⟩) (Or.inl ⟨by simp, rfl⟩) (Nat.le_add_right _ _)
theorem q_popYieldAgain (k0 : k = 0) (hp : (ag k).pc = .popYieldAgain) : ∃ xs' o' m' a' p', Pair S g A P D m ag p k xs o xs' o' m' a' p' := by
  subst k0
  have tl := h.ow.tl (by simp [hp])
  have e := hr.tl
  have HT := h.ls.HT
  exact mkPair (o_popYieldAgain h hp) (s_popYieldAgain S g A P xs o _ (hO _ hr.D hr.k) (by omega) (by omega) (Lib.hid rfl) (hr.nx.trans (by rw [hp]; rfl))) ⟨hr.D, hr.k, hr.tl, hr.x, hr.hd, hr.tn, fun _ => hr.ta (by simp [hp, tick]), hr.gt, hr.hs, hr.fl, rfl⟩ (congrT (q.set1 _) (by rw [hr.tl])) (by rw [List.length_set]) (Int.le_add_of_nonneg_right (by omega)) b0 (Or.inl ⟨by simp [hp, rank], Or.inl rfl⟩) (Or.inl ⟨by simp, rfl⟩) (Nat.le_add_right _ _)
theorem q_popLook_yes (k0 : k = 0) (hp : (ag k).pc = .popLook) (hv : m.h ≤ (ag k).tl - 1) : ∃ xs' o' m' a' p', Pair S g A P D m ag p k xs o xs' o' m' a' p' := by
  subst k0
  have tl := h.ow.tl (by simp [hp])
  have e := hr.tl
  have HT := h.ls.HT
  exact mkPair (o_popLook_yes h hp hv) (s_popLook_yes S g A P xs o _ (hO _ hr.D hr.k) (by omega) (by omega) (Lib.hid q.hd) (by rw [hr.tl]; exact hv) (hr.nx.trans (by rw [hp]; rfl))) ⟨hr.D, hr.k, hr.tl, hr.x, hr.hd, hr.tn, fun hh => by simp [tick] at hh, hr.gt, hr.hs, hr.fl, rfl⟩ q rfl (Int.le_add_of_nonneg_right (by omega)) b0 (Or.inl ⟨by simp [hp, rank], Or.inl rfl⟩) (Or.inl ⟨by simp, rfl⟩) (Nat.le_add_right _ _)
theorem q_popLook_no (k0 : k = 0) (hp : (ag k).pc = .popLook) (hv : ¬ m.h ≤ (ag k).tl - 1) : ∃ xs' o' m' a' p', Pair S g A P D m ag p k xs o xs' o' m' a' p' := by
  subst k0
  have tl := h.ow.tl (by simp [hp])
  have e := hr.tl
  have HT := h.ls.HT
  exact mkPair (o_popLook_no h hp) (s_popLook_no S g A P xs o _ (hO _ hr.D hr.k) (by omega) (by omega) (Lib.hid q.hd) (by rw [hr.tl]; exact hv) (hr.nx.trans (by rw [hp]; rfl))) ⟨hr.D, hr.k, hr.tl, hr.x, hr.hd, hr.tn, fun hh => by simp [tick] at hh, hr.gt, hr.hs, hr.fl, rfl⟩ q rfl (Int.le_add_of_nonneg_right (by omega)) b0 (Or.inl ⟨by simp [hp, rank], Or.inl rfl⟩) (Or.inl ⟨by simp, rfl⟩) (Nat.le_add_right _ _)
theorem q_popLookAgain_yes (k0 : k = 0) (hp : (ag k).pc = .popLookAgain) (hv : m.h ≤ (ag k).tl - 1) : ∃ xs' o' m' a' p', Pair S g A P D m ag p k xs o xs' o' m' a' p' := by
  subst k0
  have tl := h.ow.tl (by simp [hp])
  have e := hr.tl
  have HT := h.ls.HT
  exact mkPair (o_popLookAgain_yes h hp hv) (s_popLookAgain_yes S g A P xs o _ (hO _ hr.D hr.k) (by omega) (by omega) (Lib.hid q.hd) (by rw [hr.tl]; exact hv) (hr.nx.trans (by rw [hp]; rfl))) ⟨hr.D, hr.k, hr.tl, hr.x, hr.hd, hr.tn, fun _ => hr.ta (by simp [hp, tick]), hr.gt, hr.hs, hr.fl, rfl⟩ q rfl (Int.le_add_of_nonneg_right (by omega)) b0 (Or.inl ⟨by simp [hp, rank], Or.inl rfl⟩) (Or.inl ⟨by simp, rfl⟩) (Nat.le_add_right _ _)
theorem q_popLookAgain_no (k0 : k = 0) (hp : (ag k).pc = .popLookAgain) (hv : ¬ m.h ≤ (ag k).tl - 1) : ∃ xs' o' m' a' p', Pair S g A P D m ag p k xs o xs' o' m' a' p' := by
  subst k0
  have tl := h.ow.tl (by simp [hp])
  have e := hr.tl
  have HT := h.ls.HT
  exact mkPair (o_popLookAgain_no h hp hv) (s_popLookAgain_no S g A P xs o _ (hO _ hr.D hr.k) (by omega) (by omega) (Lib.hid q.hd) (by rw [hr.tl]; exact hv) (hr.nx.trans (by rw [hp]; rfl))) ⟨hr.D, hr.k, hr.tl, hr.x, hr.hd, hr.tn, fun _ => hr.ta (by simp [hp, tick]), hr.gt, hr.hs, hr.fl, rfl⟩ q rfl (Int.le_add_of_nonneg_right (by omega)) b0 (Or.inl ⟨by simp [hp, rank], Or.inl rfl⟩) (Or.inl ⟨by simp, rfl⟩) (Nat.le_add_right _ _)
theorem q_popAsk (k0 : k = 0) (hp : (ag k).pc = .popAsk) : ∃ xs' o' m' a' p', Pair S g A P D m ag p k xs o xs' o' m' a' p' := by
  subst k0
  have hw : wrap64 (m.tk + 1) = m.tk + 1 := by have := h.le; unfold wrap64; omega
  exact mkPair (o_popAsk h hp) (s_popAsk S g A P xs o _ (hO _ hr.D hr.k) (Lib.hid q.ka) (hr.nx.trans (by rw [hp]; rfl))) ⟨hr.D, hr.k, hr.tl, hr.x, hr.hd, rfl, fun _ => rfl, hr.gt, hr.hs, hr.fl, rfl⟩ (congrK' (q.set2 _) hw) (by rw [List.length_set]) (Int.le_refl _) b0 (Or.inl ⟨by simp [hp, rank], Or.inl rfl⟩) (Or.inl ⟨by simp, rfl⟩) (Nat.le_add_right _ _)
theorem q_popWait_yes (k0 : k = 0) (hp : (ag k).pc = .popWait) (hv : m.sv = (ag k).tn) : ∃ xs' o' m' a' p', Pair S g A P D m ag p k xs o xs' o' m' a' p' := by
  subst k0
  exact mkPair (o_popWait h hp hv) (s_popWait S g A P xs o (hO _ hr.D hr.k) (hr.ta (by simp [hp, tick])) (Lib.hid (q.sv.trans (hv.trans hr.tn.symm))) (hr.nx.trans (by rw [hp]; rfl))) ⟨hr.D, hr.k, hr.tl, hr.x, hr.hd, hr.tn, fun _ => hr.ta (by simp [hp, tick]), hr.gt, hr.hs, hr.fl, rfl⟩ q rfl (Int.le_add_of_nonneg_right (by omega)) b0 (Or.inl ⟨by simp [hp, rank], Or.inl rfl⟩) (Or.inl ⟨by simp, rfl⟩) (Nat.le_add_right _ _)
theorem q_popWait_no (k0 : k = 0) (hp : (ag k).pc = .popWait) (hv : ¬ m.sv = (ag k).tn) : ∃ xs' o' m' a' p', Pair S g A P D m ag p k xs o xs' o' m' a' p' := by
  subst k0
  exact mkPair ((show Inv D m (upd ag 0 (ag 0)) p from (upd_self ag 0).symm ▸ h)) (s_popWait_no S g A P xs o _ (hO _ hr.D hr.k) (hr.ta (by simp [hp, tick])) (Lib.hid q.sv) (by rw [hr.tn]; exact hv) (hr.nx.trans (by rw [hp]; rfl))) hr q rfl (Int.le_add_of_nonneg_right (by omega)) b0 (Or.inr ⟨rfl, rfl, fun hm => hv (hm.2 (by simp [hp, waits])).symm⟩) (Or.inl ⟨by simp [hp], rfl⟩) (Nat.le_add_right _ _)
theorem q_popLeave (k0 : k = 0) (hp : (ag k).pc = .popLeave) : ∃ xs' o' m' a' p', Pair S g A P D m ag p k xs o xs' o' m' a' p' := by
  subst k0
  have hk := h.lk.rg 0 (by omega) (by simp [hp, tick])
  have hk2 := h.lk.lk 0 (by omega) (by simp [hp, lock])
  have hw : wrap64 (o.tn + 1) = m.sv + 1 := by rw [hr.tn]; have := h.le; unfold wrap64; omega
  exact mkPair (o_popLeave h hp) (s_popLeave S g A P xs o _ (hO _ hr.D hr.k) (hr.ta (by simp [hp, tick])) (Lib.hid hw) (hr.nx.trans (by rw [hp]; rfl))) ⟨hr.D, hr.k, hr.tl, hr.x, hr.hd, hr.tn, fun hh => by simp [tick] at hh, hr.gt, hr.hs, hr.fl, rfl⟩ (q.set3 _) (by rw [List.length_set]) (Int.le_add_of_nonneg_right (by omega)) (by show 0 ≤ m.sv + 1; omega) (Or.inl ⟨by simp [hp, rank], Or.inr (by simp [hp, lock])⟩) (Or.inl ⟨by simp, rfl⟩) (Nat.le_add_right _ _)
theorem q_popGiveUp (k0 : k = 0) (hp : (ag k).pc = .popGiveUp) : ∃ xs' o' m' a' p', Pair S g A P D m ag p k xs o xs' o' m' a' p' := by
  subst k0
  have hk := h.lk.rg 0 (by omega) (by simp [hp, tick])
  have hk2 := h.lk.lk 0 (by omega) (by simp [hp, lock])
  have hw : wrap64 (o.tn + 1) = m.sv + 1 := by rw [hr.tn]; have := h.le; unfold wrap64; omega
  have tl := h.ow.tl (by simp [hp])
  have e := hr.tl
  have HT := h.ls.HT
  have ps := pops_is h (by simp [hp]) (by simp [hp]) (by simp [hp]) (by simp [hp])
  have hs0 := h.ow.hs (by simp [hp])
  exact mkPair (o_popGiveUp h hp) (s_popGiveUp S g A P xs o _ (hO _ hr.D hr.k) (hr.ta (by simp [hp, tick])) (Lib.hid hw) (hr.nx.trans (by rw [hp]; rfl))) ⟨hr.D, hr.k, hr.tl, hr.x, hr.hd, hr.tn, fun hh => by simp [tick] at hh, hr.gt, hr.hs, hr.fl, rfl⟩ (q.set3 _) (by rw [List.length_set]) (Int.le_add_of_nonneg_right (by omega)) (by show 0 ≤ m.sv + 1; omega) (Or.inl ⟨by simp [hp, rank], Or.inr (by simp [hp, lock])⟩) (Or.inr (Or.inr (Or.inr ⟨rfl, rfl, tl, Or.inr (Or.inr (Or.inr ⟨ps, hs0, rfl⟩))⟩))) (Nat.le_add_right _ _)
theorem q_popTake (k0 : k = 0) (hp : (ag k).pc = .popTake) : ∃ xs' o' m' a' p', Pair S g A P D m ag p k xs o xs' o' m' a' p' := by
  subst k0
  have tl := h.ow.tl (by simp [hp])
  have e := hr.tl
  have HT := h.ls.HT
  have ps := pops_is h (by simp [hp]) (by simp [hp]) (by simp [hp]) (by simp [hp])
  have hs0 := h.ow.hs (by simp [hp])
  have D2 := h.D2
  obtain ⟨i1, i2, i3, i4⟩ := o_popTake h hp
  exact mkPair (i1) (s_popTake S g A P xs o ((p.T - 1) % D) _ _ (hO _ hr.D hr.k) (by omega) (by omega) (Lib.hid rfl) (Lib.hid (by rw [hr.tl, tl, hr.D, show (p.T : Int) - 1 = ((p.T - 1 : Nat) : Int) by omega]; exact tmod_nat _ _)) (by rw [hr.D]; exact Nat.mod_lt _ (by omega)) (Lib.hid (q.sl _ (Nat.mod_lt _ (by omega)))) (hr.nx.trans (by rw [hp]; rfl))) ⟨hr.D, hr.k, by rw [hr.tl], hr.x, hr.hd, hr.tn, fun hh => by simp [tick] at hh, rfl, rfl, hr.fl, rfl⟩ q rfl (Int.le_add_of_nonneg_right (by omega)) b0 (Or.inl ⟨by simp [hp, rank], Or.inl rfl⟩) (Or.inr (Or.inr (Or.inr ⟨rfl, rfl, by show (ag 0).tl - 1 = ((p.T - 1 : Nat) : Int); omega, Or.inr (Or.inr (Or.inl ⟨ps, rfl, i2, i3, i4, rfl⟩))⟩))) (Nat.le_add_right _ _)
/-- Any step. -/
theorem any_step (k4 : k < 4) (hi : (ag k).pc ≠ .idle) : ∃ xs' o' m' a' p', Pair S g A P D m ag p k xs o xs' o' m' a' p' := by
  by_cases k0 : k = 0
  · have hof := h.ow.of
    rw [← k0] at hof
    cases hp : (ag k).pc <;> simp only [hp, ofOwner] at hof <;> first | cases hof | skip
    · exact absurd hp hi
    · by_cases hv : m.h ≤ (ag k).tl - ((D : Int) - 1)
      · exact q_push_full h hr q hO b0 b1 b2 k0 hp hv
      · exact q_push_look h hr q hO b0 b1 b2 k0 hp hv
    · exact q_push_put h hr q hO b0 b1 b2 k0 hp
    · exact q_push_show h hr q hO b0 b1 b2 k0 hp
    · exact q_popClaim h hr q hO b0 b1 b2 k0 hp
    · by_cases hv : m.h ≤ (ag k).tl - 1
      · exact q_popLook_yes h hr q hO b0 b1 b2 k0 hp hv
      · exact q_popLook_no h hr q hO b0 b1 b2 k0 hp hv
    · exact q_popYield h hr q hO b0 b1 b2 k0 hp
    · exact q_popAsk h hr q hO b0 b1 b2 k0 hp
    · by_cases hv : m.sv = (ag k).tn
      · exact q_popWait_yes h hr q hO b0 b1 b2 k0 hp hv
      · exact q_popWait_no h hr q hO b0 b1 b2 k0 hp hv
    · exact q_popClaimAgain h hr q hO b0 b1 b2 k0 hp
    · by_cases hv : m.h ≤ (ag k).tl - 1
      · exact q_popLookAgain_yes h hr q hO b0 b1 b2 k0 hp hv
      · exact q_popLookAgain_no h hr q hO b0 b1 b2 k0 hp hv
    · exact q_popLeave h hr q hO b0 b1 b2 k0 hp
    · exact q_popYieldAgain h hr q hO b0 b1 b2 k0 hp
    · exact q_popGiveUp h hr q hO b0 b1 b2 k0 hp
    · exact q_popTake h hr q hO b0 b1 b2 k0 hp
  · have k1 : 1 ≤ k := by omega
    have hof := (h.th k k1 k4).of
    cases hp : (ag k).pc <;> simp only [hp, ofThief] at hof <;> first | cases hof | skip
    · exact absurd hp hi
    · exact p_ask h hr q hO b0 b1 b2 k1 k4 hp
    · by_cases hv : m.sv = (ag k).tn
      · exact p_wait_yes h hr q hO b0 b1 b2 k1 k4 hp hv
      · exact p_wait_no h hr q hO b0 b1 b2 k1 k4 hp hv
    · exact p_look h hr q hO b0 b1 b2 k1 k4 hp
    · exact p_claim h hr q hO b0 b1 b2 k1 k4 hp
    · by_cases hv : m.t ≤ (ag k).hd
      · exact p_check_yes h hr q hO b0 b1 b2 k1 k4 hp hv
      · exact p_check_no h hr q hO b0 b1 b2 k1 k4 hp hv
    · exact p_yield h hr q hO b0 b1 b2 k1 k4 hp
    · exact p_take h hr q hO b0 b1 b2 k1 k4 hp
    · cases hv : (ag k).hs
      · exact p_leave_no h hr q hO b0 b1 b2 k1 k4 hp hv
      · exact p_leave_got h hr q hO b0 b1 b2 k1 k4 hp hv
end
end Go.Proofs.Ytegbifphekhgkaa.DO
