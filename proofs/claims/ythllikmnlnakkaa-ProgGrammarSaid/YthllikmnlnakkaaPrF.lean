/- The program that bytes are: what there is to say (layer 4). -/
import Derived.Test.YthllikmnlnakkaaPrE
import Derived.Test.YthllikmnlnakkaaInF
import Derived.Scope
import Derived.ScopeJumps
import Derived.WalkMore
namespace Go
/-- As Q; by a goto to label l: J l. -/
def Exit.jumps (J : Nat → Act → World → Prop) (Q : Exit → Act → World → Prop) : Exit → Act → World → Prop
  | .goto l, a, w => J l a w
  | e, a, w => Q e a w
section
variable {P : Program} {a : Act} {w : World} {Q : Exit → Act → World → Prop} {J : Nat → Act → World → Prop}
@[go_sem] theorem Exit.jumps_normal : Exit.jumps J Q .normal a w = Q .normal a w := rfl
@[go_sem] theorem Exit.jumps_ret : Exit.jumps J Q .ret a w = Q .ret a w := rfl
theorem Exit.jumps_goto (l : Nat) : Exit.jumps J Q (.goto l) a w = J l a w := rfl
@[go_sem] theorem Exit.jumps_exit (id : Nat) : Exit.jumps J Q (.exit id) a w = Q (.exit id) a w := rfl
@[go_sem] theorem Exit.jumps_panic (ch : List PanicEntry) : Exit.jumps J Q (.panic ch) a w = Q (.panic ch) a w := rfl
theorem wp_scope_labels {c : Code} (J : Nat → Act → World → Prop) (μ : Nat → Act → World → Nat)
    (first : c.wp P (Exit.jumps J Q) a w)
    (pass : ∀ l a w, J l a w → ∃ rest, findLabel c l = some rest ∧ rest.wp P (Exit.jumps (fun l' a' w' => J l' a' w' ∧ μ l' a' w' < μ l a w) Q) a w) : (Code.scope c).wp P Q a w := by
  intro b k cs
  have hg : ∀ l rest, findLabel c l = some rest → gotoIn l (.inScope c :: k) = some (.code rest :: .inScope c :: k) := fun l rest hf => by simp [gotoIn, hf]
  have key : ∀ n l rest a w, μ l a w = n → J l a w → findLabel c l = some rest → ∃ e a' w', Q e a' w' ∧ Arrives P (lone (b.at a (.code rest :: .inScope c :: k)) cs w) b k cs e a' w' := by
    intro n
    induction n using Nat.strongRecOn with
    | _ n ih =>
      intro l rest a w hn hJ hf
      obtain ⟨rest', hf', hp⟩ := pass l a w hJ
      rw [hf] at hf'
      obtain rfl : rest = rest' := by simpa using hf'
      obtain ⟨e, a₁, w₁, hq, harr⟩ := hp b (.inScope c :: k) cs
      cases e with
      | normal => exact ⟨.normal, a₁, w₁, hq, Steps.trans harr (.one step_inScope)⟩
      | exit id => exact ⟨.exit id, a₁, w₁, hq, fun k' hk => harr k' (by simp [exitTo, hk])⟩
      | goto l' =>
        obtain ⟨hJ', hlt⟩ := hq
        obtain ⟨rest₂, hf₂, _⟩ := pass l' a₁ w₁ hJ'
        obtain ⟨e₂, a₂, w₂, hq₂, harr₂⟩ := ih _ (by omega) l' rest₂ a₁ w₁ rfl hJ' hf₂
        exact ⟨e₂, a₂, w₂, hq₂, .of_steps (harr _ (hg _ _ hf₂)) harr₂⟩
      | ret => exact ⟨_, a₁, w₁, hq, harr⟩
      | panic ch => exact ⟨_, a₁, w₁, hq, harr⟩
      | outgrown => exact ⟨_, a₁, w₁, hq, harr⟩
  obtain ⟨e, a₁, w₁, hq, harr⟩ := first b (.inScope c :: k) cs
  cases e with
  | normal => exact ⟨.normal, a₁, w₁, hq, .head step_scope (Steps.trans harr (.one step_inScope))⟩
  | exit id => exact ⟨.exit id, a₁, w₁, hq, fun k' hk => .head step_scope (harr k' (by simp [exitTo, hk]))⟩
  | goto l' =>
    have hJ' : J l' a₁ w₁ := hq
    obtain ⟨rest₂, hf₂, _⟩ := pass l' a₁ w₁ hJ'
    obtain ⟨e₂, a₂, w₂, hq₂, harr₂⟩ := key _ l' rest₂ a₁ w₁ rfl hJ' hf₂
    exact ⟨e₂, a₂, w₂, hq₂, .of_steps (.head step_scope (harr _ (hg _ _ hf₂))) harr₂⟩
  | ret => exact ⟨_, a₁, w₁, hq, .of_steps (.one step_scope) harr⟩
  | panic ch => exact ⟨_, a₁, w₁, hq, .of_steps (.one step_scope) harr⟩
  | outgrown => exact ⟨_, a₁, w₁, hq, .of_steps (.one step_scope) harr⟩
end
end Go
namespace Go.Proofs.Ythllikmnlnakkaa.pr
open Go.ChangeShapes Go.WideShapes Go.ChangeAt Go.RowKit
open Go.Proofs.Ythllikmnlnakkaa.bin Go.Proofs.Ythllikmnlnakkaa.bits Go.Proofs.Ythllikmnlnakkaa.ins
set_option linter.unusedVariables false
set_option linter.unusedSimpArgs false
abbrev R3 := Int × Int × List (List I4)
def bad (e : Int) : R3 := (e, 0, [])
def gI (l : List UInt8) : I4 := (getV l 0, getV l 1, getV l 2, getV l 3)
def stI (F : List I4 → List UInt8 → R3) : Nat → List I4 → List UInt8 → R3
  | 0, c, r => F c r
  | j + 1, c, r => if getE (r.take 4) ≠ 0 then bad (getE (r.take 4)) else stI F j (c ++ [gI (r.take 4)]) (r.drop 4)
def stF (m : Int) : Nat → List (List I4) → List UInt8 → R3
  | 0, acc, r => if r ≠ [] then bad 2 else if prE m acc ≠ 0 then bad (prE m acc) else (0, m, acc)
  | k + 1, acc, r => if r.length < 2 then bad 1 else if lenE (ofB (r.take 2)) ≠ 0 then bad (lenE (ofB (r.take 2))) else stI (fun c r => stF m k (acc ++ [c]) r) (ofB (r.take 2)) [] (r.drop 2)
def gM (s : List UInt8) : Nat := ofB ((s.drop 4).take 2)
def gN (s : List UInt8) : Nat := ofB ((s.drop 3).take 1)
def getP (s : List UInt8) : R3 := if s.length < 6 then bad 1 else if s.take 3 ≠ [72, 82, 1] then bad 4 else if cntE (gM s) (gN s) ≠ 0 then bad (cntE (gM s) (gN s)) else stF (gM s) (gN s) [] (s.drop 6)
noncomputable def code13 : Code := match Try.f13.body with | some (.seq _ (.scope c)) => c | _ => .skip
noncomputable def R13 (l : Nat) : Code := match findLabel code13 l with | some (.seq _ r) => r | _ => .skip
theorem number_v (r : List UInt8) (k : Int) (h : Nat) (w : World) (hh : hz k = h) (hs : h ≤ r.length) (hm : r.length ≤ 1000000) : Calls Try.prog 23 #[.string ⟨r.toArray⟩, .int .i64 k] w fun e w' => e = .returned (.int .i64 (ofB (r.take h))) ∧ Below w.heap.size w w' := by
  obtain ⟨n, hn⟩ : ∃ n : Nat, ofB (r.take h) = n := ⟨_, rfl⟩
  have CN := Lib.hid (fun C w hC => num_l C r k h w hC hh hs hm)
  rw [hn] at CN
  rw [hn]
  clear hn
  go_enter Try.func23, Try.ntmps23
  go_wp2_with fail
  refine (new_v _ w).mono ?_
  rintro e w1 ⟨rfl, hC, hb1⟩
  go_wp2_with fail
  refine (CN.out _ _ hC).mono ?_
  rintro e w2 ⟨rfl, rfl⟩
  have hb2 := hb1.setCell (p := ⟨w.heap.size, 0, none⟩) (Nat.le_refl _) (.string ⟨(r.drop h).toArray⟩)
  clear CN
  go_wp2_with fail
  go_ret
  exact ⟨rfl, hb2⟩
structure HG (w0 w : World) (m : Int) (v : Value) (rows : List Value) (acc : List (List I4)) : Prop where
  r0 : w.heap[w0.heap.size]? = some (.cells #[.int .i64 0, .slice none 0 0] 24 (0, 0))
  r1 : w.heap[w0.heap.size + 1]? = some (.cells #[.int .i64 m, v] 24 (0, 0))
  r2 : ∃ a b c d, w.heap[w0.heap.size + 2]? = some (.cells #[.int .i64 a, .int .i64 b, .int .i64 c, .int .i64 d] 40 (0, 0))
  own : OP w (w0.heap.size + 3) v rows acc
  bel : Below w0.heap.size w0 w
theorem HG.lt {w0 w : World} {m : Int} {v : Value} {rows : List Value} {acc : List (List I4)} (h : HG w0 w m v rows acc) : w0.heap.size + 2 < w.heap.size := by
  obtain ⟨a, b, c, d, h2⟩ := h.r2
  exact (Array.getElem?_eq_some_iff.1 h2).1
theorem HG.below {w0 w w' : World} {m : Int} {v : Value} {rows : List Value} {acc : List (List I4)} (h : HG w0 w m v rows acc) (hb : Below w.heap.size w w') : HG w0 w' m v rows acc := by
  obtain ⟨a, b, c, d, h2⟩ := h.r2
  exact ⟨kb h.r0 hb, kb h.r1 hb, ⟨a, b, c, d, kb h2 hb⟩, h.own.below hb, tr3 h.bel hb⟩
def NB (rows : List Value) (u : Value) : Prop := ∀ (i : Nat) (x : Value), rows[i]? = some x → ∀ g, x.ownBlock = some g → u.ownBlock ≠ some g
def FR (w0 : World) (a : Act) : Prop := a.defers = [] ∧ a.tmps.size = 83 ∧ a.tmps.getD 2 undef = .pointer (some ⟨w0.heap.size, 0, none⟩) ∧ a.tmps.getD 4 undef = .pointer (some ⟨w0.heap.size + 1, 0, none⟩) ∧ a.tmps.getD 5 undef = .pointer (some ⟨w0.heap.size + 2, 0, none⟩)
def J0 (w0 : World) (res : R3) (a : Act) (w : World) : Prop := FR w0 a ∧ ∃ (m : Int) (v : Value) (rows : List Value) (acc : List (List I4)) (e : Int), HG w0 w m v rows acc ∧ a.tmps.getD 10 undef = .int .i64 e ∧ res = bad e
def J1 (w0 : World) (res : R3) (a : Act) (w : World) : Prop := FR w0 a ∧ ∃ (m : Int) (v : Value) (rows : List Value) (acc : List (List I4)) (r : List UInt8), HG w0 w m v rows acc ∧ a.tmps.getD 9 undef = .string ⟨r.toArray⟩ ∧ stF m 0 acc r = res ∧ acc.length ≤ 100000
def J2 (w0 : World) (res : R3) (a : Act) (w : World) : Prop := FR w0 a ∧ ∃ (m : Int) (v : Value) (rows : List Value) (acc : List (List I4)) (r : List UInt8) (k : Nat), HG w0 w m v rows acc ∧ a.tmps.getD 7 undef = .int .i64 (k : Int) ∧ a.tmps.getD 9 undef = .string ⟨r.toArray⟩ ∧ stF m k acc r = res ∧ acc.length + k ≤ 16 ∧ r.length ≤ 1000000
def J3 (w0 : World) (res : R3) (a : Act) (w : World) : Prop := FR w0 a ∧ ∃ (m : Int) (v : Value) (rows : List Value) (acc : List (List I4)) (r : List UInt8) (k j : Nat) (c : List I4) (u : Value), HG w0 w m v rows acc ∧ a.tmps.getD 7 undef = .int .i64 (k : Int) ∧ a.tmps.getD 8 undef = .int .i64 (j : Int) ∧ a.tmps.getD 6 undef = u ∧ OR 4 enI w (w0.heap.size + 3) 40 u c ∧ NB rows u ∧ a.tmps.getD 9 undef = .string ⟨r.toArray⟩ ∧ stI (fun c r => stF m k (acc ++ [c]) r) j c r = res ∧ acc.length + k ≤ 15 ∧ c.length + j ≤ 1000 ∧ r.length ≤ 1000000
def JG (w0 : World) (res : R3) (l : Nat) (a : Act) (w : World) : Prop := (l = 0 ∧ J0 w0 res a w) ∨ (l = 1 ∧ J1 w0 res a w) ∨ (l = 2 ∧ J2 w0 res a w) ∨ (l = 3 ∧ J3 w0 res a w)
def sl (a : Act) : Nat := match a.tmps.getD 9 undef with | .string b => b.size | _ => 0
def mu (l : Nat) (a : Act) : Nat := if l = 0 then 0 else if l = 1 then 1 else if l = 2 then 2 * sl a + 3 else 2 * sl a + 4
def KG (w0 : World) (res : R3) (n : Nat) (l : Nat) (a : Act) (w : World) : Prop := JG w0 res l a w ∧ mu l a < n
def GP (w0 : World) (res : R3) (e : Ending) (w' : World) : Prop := (∃ v, e = .returned (.tuple #[.agg #[.int .i64 res.2.1, v], .int .i64 res.1]) ∧ PM w' v res.2.2) ∧ Below w0.heap.size w0 w'
abbrev QG (w0 : World) (res : R3) (J : Nat → Act → World → Prop) : Exit → Act → World → Prop := Exit.jumps J (bodyPost Try.prog Try.f13 (GP w0 res))
theorem list_one {α : Type} {n : Nat} {l : List α} (h : l.length = n + 1) : ∃ x t, l = x :: t ∧ t.length = n := by
  cases l with
  | nil => simp at h
  | cons x t => exact ⟨x, t, rfl, by simpa using h⟩
set_option maxRecDepth 20000 in
theorem res_pg {fn : Func} {A : Array Value} {W : World} {g : Nat} {a b e : Value} {T : TypeId} (hfn : fn.results = #[.cell 2 24, .tmp 3]) (h2 : A.getD 2 undef = .pointer (some ⟨g, 0, none⟩)) (h3 : A.getD 3 undef = e) (hF : W.heap[g]? = some (.cells #[a, b] T (0, 0))) :
    (results fn A).run Try.prog W = .ok (.tuple #[.agg #[a, b], e]) W := by
  rw [Array.getD_eq_getD_getElem?] at h2 h3
  have c0 : W.cell? ⟨g, 0, none⟩ = some a := cel hF 0
  have c1 : W.cell? ⟨g, 1, none⟩ = some b := cel hF 1
  simp [results, hfn, h2, h3, go_sem, c0, c1]
end Go.Proofs.Ythllikmnlnakkaa.pr
