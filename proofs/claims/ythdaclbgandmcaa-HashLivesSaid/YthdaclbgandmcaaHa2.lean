/-
  Contracts and lemmas on which the proofs of this seat stand (several texts in one). Conditions are each theorem's own.
-/
import Derived.Test.YthdaclbgandmcaaHa1
import Derived.Great.BuildSlice
import Derived.OwnWalkIn
import Derived.Lib.Strings
import Derived.Laws.Closers25b
import Derived.OrdersHeld
import Derived.OrdersIn
import Derived.Sort.CutIn
import Derived.TacticsIn
import Derived.Maps.RangeWalk
import Derived.RangeFuncSeq

/-
  Rows of structs: a slice whose elements fill so many cells each, read at an index, grown by one; what a round that grows one keeps. Conditions are each theorem's own.
-/
namespace Go.Proofs.Ythdaclbgandmcaa
open Go.RowKit Go.Shelf

section
variable {α : Type} {cl : α → List Value} {sz : Nat}
theorem flat_len (l : List α) (h : ∀ x ∈ l, (cl x).length = sz) : (l.flatMap cl).length = l.length * sz := by
  induction l with
  | nil => simp
  | cons x l ih =>
    rw [List.flatMap_cons, List.length_append, h x (by simp), ih (fun y hy => h y (by simp [hy])), List.length_cons, Nat.add_mul]; omega
theorem flat_at : ∀ (l : List α), (∀ x ∈ l, (cl x).length = sz) → ∀ (j : Nat) (x : α), l[j]? = some x → ∀ (i : Nat) (v : Value), (cl x)[i]? = some v → (l.flatMap cl)[j * sz + i]? = some v
  | [], _, j, x, hx, _, _, _ => by simp at hx
  | y :: l, h, 0, x, hx, i, v, hv => by
    simp only [List.getElem?_cons_zero, Option.some.injEq] at hx
    subst hx
    have hi := (List.getElem?_eq_some_iff.1 hv).1
    rw [List.flatMap_cons, Nat.zero_mul, Nat.zero_add, List.getElem?_append_left hi]; exact hv
  | y :: l, h, j + 1, x, hx, i, v, hv => by
    have hy := h y (by simp)
    rw [List.flatMap_cons, List.getElem?_append_right (by rw [hy, Nat.add_mul]; omega), hy, show (j + 1) * sz + i - sz = j * sz + i from by rw [Nat.add_mul]; omega]
    exact flat_at l (fun z hz => h z (by simp [hz])) j x (by simpa using hx) i v hv
/-- The slice at A reads as these elements; its cells lie below block B. -/
def RdS (cl : α → List Value) (sz : Nat) (w : World) (B : Nat) (A : Option Addr) (l : List α) : Prop :=
  0 < l.length → ∃ b off, A = some ⟨b, off, none⟩ ∧ b < B ∧ ∀ j x, l[j]? = some x → w.rangeAt b (off + j * sz) (cl x)
theorem RdS.keep {w w' : World} {B : Nat} {A : Option Addr} {l : List α} (h : RdS cl sz w B A l) (hk : ∀ p : Addr, p.block < B → w'.cell? p = w.cell? p) : RdS cl sz w' B A l := fun hn => by
  obtain ⟨b, off, e, hb, hc⟩ := h hn
  exact ⟨b, off, e, hb, fun j x hx i v hv => (hk ⟨b, _, none⟩ hb).trans (hc j x hx i v hv)⟩
theorem RdS.below {w w' : World} {B : Nat} {A : Option Addr} {l : List α} (h : RdS cl sz w B A l) (hb : Below B w w') : RdS cl sz w' B A l := h.keep fun _ hp => hb.cell hp
theorem RdS.more {w : World} {B B' : Nat} {A : Option Addr} {l : List α} (h : RdS cl sz w B A l) (hB : B ≤ B') : RdS cl sz w B' A l := fun hn => by
  obtain ⟨b, off, e, hb, hc⟩ := h hn
  exact ⟨b, off, e, by omega, hc⟩
theorem own_rds {w : World} {base e n : Nat} {v : Value} {xs : List Value} {l : List α} (h : w.ownsRow base e sz v n xs) (hn : n = l.length) (hx : xs = l.flatMap cl) (hl : ∀ x ∈ l, (cl x).length = sz) :
    ∃ A c, v = .slice A l.length c ∧ RdS cl sz w w.heap.size A l ∧ l.length ≤ c := by
  subst hn; subst hx
  rcases h.2 with ⟨rfl, h0⟩ | ⟨g, cap, cur, rfl, hb, hh, hle, _, hs, ht⟩
  · exact ⟨none, 0, by rw [h0], fun hn => by omega, by omega⟩
  · refine ⟨_, cap, rfl, fun _ => ⟨g, 0, rfl, heap_lt hh, fun j x hx i v hv => ?_⟩, hle⟩
    have hf := flat_at l hl j x hx i v hv
    have hcl : j * sz + i < l.length * sz := by
      have := (List.getElem?_eq_some_iff.1 hf).1
      rwa [flat_len l hl] at this
    have := World.ownsRow.cellAt h (j * sz + i) hcl
    rw [hf] at this
    rw [Nat.zero_add]; exact this
end

/-! ### What a round keeps -/
/-- Each block of cells lies as it lay, but for variables of type t, and rows of type e of more than one element. -/
structure KeepS (e t sz : Nat) (X Y : World) : Prop where
  size : X.heap.size ≤ Y.heap.size
  block : ∀ (k : Nat) (cs : Array Value) (ty : TypeId) (fr : Nat × Nat), X.heap[k]? = some (.cells cs ty fr) → ty ≠ t → (ty = e → cs.size ≤ sz) → Y.heap[k]? = X.heap[k]?
section
variable {e t sz : Nat} {X Y Z : World}
theorem KeepS.refl (X : World) : KeepS e t sz X X := ⟨Nat.le_refl _, fun _ _ _ _ _ _ _ => rfl⟩
theorem KeepS.trans (h : KeepS e t sz X Y) (k : KeepS e t sz Y Z) : KeepS e t sz X Z :=
  ⟨Nat.le_trans h.size k.size, fun i cs ty fr hi h1 h2 => (k.block i cs ty fr ((h.block i cs ty fr hi h1 h2).trans hi) h1 h2).trans (h.block i cs ty fr hi h1 h2)⟩
theorem KeepS.of_below (h : Below X.heap.size X Y) : KeepS e t sz X Y := ⟨h.size, fun _ _ _ _ hi _ _ => h.block _ (heap_lt hi)⟩
theorem KeepS.loop {l : Nat} {r r' : Loop} (hl : X.heap[l]? = some (.loop r)) : KeepS e t sz X (X.putObj l (.loop r')) :=
  ⟨by simp, fun k cs ty fr hk _ _ => World.putObj_heap_other (fun e => by rw [e, hl] at hk; cases hk)⟩
theorem KeepS.set {b : Nat} {u v : Value} {ty : TypeId} (h : Boxed X b ty u) (ht : ty = t) : KeepS e t sz X (X.setCell ⟨b, 0, none⟩ v) :=
  ⟨by simp, fun k cs ty' fr hk h1 _ => Below.heap_setCell X _ _ k (fun e => by rw [e] at hk; have := (show X.heap[b]? = _ from h).symm.trans hk; simp at this; exact h1 (this.2.1.symm.trans ht))⟩
theorem KeepS.own {base e' s' n : Nat} {v : Value} {xs : List Value} (h : X.ownsRow base e' s' v n xs) (k : KeepS e t sz X Y) (h1 : e' ≠ t) (h2 : e' ≠ e) : Y.ownsRow base e' s' v n xs := by
  refine ⟨h.1, ?_⟩
  rcases h.2 with hn | ⟨g, cap, cur, hv, hb, hg, rest⟩
  · exact .inl hn
  · exact .inr ⟨g, cap, cur, hv, hb, (k.block g cur e' _ hg h1 (fun e => absurd e h2)).trans hg, rest⟩
theorem KeepS.box {b : Nat} {ty : TypeId} {v : Value} (k : KeepS e t sz X Y) (h : Boxed X b ty v) (h1 : ty ≠ t) (h2 : ty = e → 1 ≤ sz) : Boxed Y b ty v := (k.block b _ _ _ h h1 (fun e => by simpa using h2 e)).trans h
theorem KeepS.heap {b : Nat} {cs : Array Value} {ty : TypeId} {fr : Nat × Nat} (k : KeepS e t sz X Y) (h : X.heap[b]? = some (.cells cs ty fr)) (h1 : ty ≠ t) (h2 : cs.size ≤ sz) : Y.heap[b]? = some (.cells cs ty fr) := (k.block b _ _ _ h h1 (fun _ => h2)).trans h
end

/-! ### One element more -/
section
variable {P : Program}
theorem fill_one (cs z : Array Value) (sz : Nat) (hc : cs.size = sz) (hs : 0 < sz) :
    Instr.fill (fun i => some (i * sz, sz)) ((Array.range (1 * sz)).map (z[· % z.size]!)) [(0, .agg cs)] = some cs := by
  have h := Great.fill_whole hs [.agg cs] ((Array.range (1 * sz)).map (z[· % z.size]!)) (by simp [Value.cells, hc]) (by simp)
  simpa [Value.cells] using h
/-- A slice literal of one struct. -/
theorem run_lit1 (w : World) (t e : TypeId) (ie : TypeInfo) (z : Value) (cs : Array Value) (sz : Nat) (hu : P.underlying t = some (.slice e)) (hie : P.info? e = some ie) (hz : ie.zero = some z)
    (hs : ie.size = sz) (hc : cs.size = sz) (h0 : 0 < sz) (h1 : sz ≤ 1000) :
    (Instr.buildSlice t 1 #[(0, .agg cs)]).run P w = .ok (.slice (some ⟨w.heap.size, 0, none⟩) 1 1) (w.alloc (.cells cs e)) :=
  run_buildSlice w t e 1 _ cs ie z hu hie hz (by rw [hs]; omega) (by rw [hs]; omega) (by rw [hs]; exact fill_one cs z.cells sz hc h0)
/-- What an append of one element keeps. -/
theorem append_keeps (w : World) (base t ty e : Nat) (i : TypeInfo) (z : Value) (size bytes : Nat) (ht : P.underlying t = some (.slice e)) (hi : P.info? e = some i) (hz : i.zero = some z)
    (hsize : i.size = size) (hby : i.bytes = bytes) (hsz : 0 < size)
    (v : Value) (n : Nat) (xs : List Value) (hown : w.ownsRow base e size v n xs) (hv : v = .slice none 0 0 ∨ 0 < n)
    (a : Addr) (c : Nat) (news : List Value) (hl : news.length = size) (hnews : ∀ j u, news[j]? = some u → w.cell? (a.add j) = some u) (h1 : ∀ u ∈ news, u.oneCell' = true)
    (h63 : n + 1 ≤ maxLen) (hbytes : (n + 1) * bytes ≤ 140737488355328) {v' : Value} {w' : World}
    (hr : (Builtin.append_ #[t, t] ty #[v, .slice (some a) 1 c]).run P w = .ok v' w') :
    (∀ (k : Nat) (cs : Array Value) (y : TypeId) (fr : Nat × Nat), w.heap[k]? = some (.cells cs y fr) → (y = e → cs.size ≤ size) → w'.heap[k]? = w.heap[k]?) ∧ (v'.ownBlock = v.ownBlock ∨ v'.ownBlock = some w.heap.size) := by
  subst hsize
  subst hby
  have hl1 : news.length = 1 * i.size := by omega
  rcases hown.2 with ⟨rfl, rfl⟩ | ⟨g, cap, cur, rfl, hbg, hg, hnc, hcm, hcs, htake⟩
  · have h := run_append_nil (P := P) w t ty e i z ht hi hz a 1 c news hl1 hnews (by omega) (by omega) (by simp only [Nat.zero_add] at hbytes; omega)
    rw [h] at hr
    cases hr
    exact ⟨fun k cs y fr hk _ => Below.heap_alloc w.drew _ k (heap_lt hk), .inr rfl⟩
  · have hn : 0 < n := by
      rcases hv with e | e
      · cases e
      · exact e
    by_cases hroom : n + 1 ≤ cap
    · have hfit : n * i.size + news.length ≤ cur.size := by rw [hl1, hcs, ← Nat.add_mul]; exact Nat.mul_le_mul_right _ hroom
      have h := run_append_room (P := P) w t ty e i ht hi g n cap cur hg a 1 c news hl1 hnews h1 hroom hfit
      rw [h] at hr
      cases hr
      refine ⟨fun k cs y fr hk hy => setRow_other w g k _ (fun e' => ?_), .inl rfl⟩
      subst e'
      rw [hg] at hk
      cases hk
      have h2 := hy rfl
      have h3 : 2 * i.size ≤ cap * i.size := Nat.mul_le_mul_right _ (by omega)
      omega
    · have holds : ∀ j u, xs[j]? = some u → w.cell? ((⟨g, 0, none⟩ : Addr).add j) = some u := hown.cells (g := g) rfl
      have h := run_append_grow (P := P) w t ty e i z ht hi hz ⟨g, 0, none⟩ n cap xs hown.1 holds a 1 c news hl1 hnews (by omega) (by simp only [maxLen] at h63; omega) (growslice_fits (by omega) hbytes)
      rw [h] at hr
      cases hr
      exact ⟨fun k cs y fr hk _ => Below.heap_alloc w.drew _ k (heap_lt hk), .inr rfl⟩
theorem wpListIn_append_one {F : Fence} {n : Nat} (w : World) {ops : Array Oper} {rest : List Oper} {o : Oper} {a : Act} {Q : Exit → Act → World → Prop}
    (hg : o.guard = none) (s x : Operand) (t : TypeId) (hop : o.op = Op.call { callee := Callee.builtin Builtin.append, args := #[s, x], argTypes := #[t, t] })
    (base : Nat) (e : TypeId) (i : TypeInfo) (z : Value) (size bytes : Nat) (h1 : P.underlying t = some (.slice e)) (h2 : P.info? e = some i) (h3 : i.zero = some z) (h4 : i.size = size) (h5 : i.bytes = bytes) (h6 : z.cells.size = size) (h7 : 0 < size)
    (v : Value) (k : Nat) (xs : List Value) (hs : a.eval s = v) (hown : w.ownsRow base e size v k xs) (hv : v = .slice none 0 0 ∨ 0 < k) (ad : Addr) (c : Nat) (news : List Value) (hx : a.eval x = .slice (some ad) 1 c) (hn : news.length = size)
    (hc : ∀ j u, news[j]? = some u → w.cell? (ad.add j) = some u) (h1c : ∀ u ∈ news, u.oneCell' = true) (b1 : k + 1 ≤ maxLen) (b2 : (k + 1) * bytes ≤ 140737488355328) (b3 : base ≤ w.heap.size)
    (hK : ∀ v' w', w'.ownsRow base e size v' (k + 1) (xs ++ news) → w.grownBy w' v.ownBlock →
      (∀ (j : Nat) (cs : Array Value) (y : TypeId) (fr : Nat × Nat), w.heap[j]? = some (.cells cs y fr) → (y = e → cs.size ≤ size) → w'.heap[j]? = w.heap[j]?) → (v'.ownBlock = v.ownBlock ∨ v'.ownBlock = some w.heap.size) → wpListIn F n P ops Q rest (a.put o.dst v') w') :
    wpListIn F n P ops Q (o :: rest) a w := by
  refine wpListIn_plain hg fun K hK' => ?_
  have hn1 : news.length = 1 * size := by omega
  obtain ⟨v', w', hrun, r1, r2, r3⟩ := run_append_own (P := P) w base t o.type e i z size bytes h1 h2 h3 h4 h5 h6 h7 v k xs hown ad 1 c news hn1 hc h1c b1 b2 b3
  have r4 := append_keeps w base t o.type e i z size bytes h1 h2 h3 h4 h5 h7 v k xs hown hv ad c news hn hc h1c b1 b2 hrun
  unfold Oper.wpIn
  refine ⟨?_, ?_⟩
  · simp [Oper.about, hop, resolve, Target.leads, Sem.run_pure]
  · rw [Oper.semAt_plain F _ _ (by rw [hop]; intro c hc'; cases hc')]
    simp [execOp, hop, resolve, invoke, builtin, hs, hx, hrun, Result.andThen]
    exact hK' _ _ (hK v' w' r1 r2 r4.1 r4.2)
end
end Go.Proofs.Ythdaclbgandmcaa

/-
  isMade, way, home, Len, markOf of layer 18's code, and what a table of it keeps. Conditions are each theorem's own.
-/
namespace Go.Proofs.Ythdaclbgandmcaa
open Go.RowKit Go.Shelf

set_option maxRecDepth 100000 in
theorem hsmade_nil (w : World) : Calls Try.prog 72 #[.pointer none] w fun e w' => e = .returned (.bool false) ∧ w = w' := by
  go_enter Try.func72, Try.ntmps72
  go_wp2
  go_ret
  exact ⟨rfl, rfl⟩
theorem eqin_slc {P : Program} (w : World) (d : Nat) (t e : TypeId) (A : Option Addr) (n c : Nat) (h : P.underlying t = some (.slice e)) : (Op.equalIn (d + 1) t (.slice A n c) (.slice none 0 0)).run P w = .ok A.isNone w := by
  cases A <;> simp [Op.equalIn, run_underlying h]
theorem neq_slcP {P : Program} (w : World) (t e : TypeId) (A : Option Addr) (n c : Nat) (h : P.underlying t = some (.slice e)) : (binOp .neq t (.slice A n c) (.slice none 0 0)).run P w = .ok (.bool (!A.isNone)) w := by
  simp only [binOp]
  simp [Op.equal, Op.maxDepth, eqin_slc w 9999 t e A n c h]
theorem neq_slc (w : World) (A : Option Addr) (n c : Nat) : (binOp .neq 79 (.slice A n c) (.slice none 0 0)).run Try.prog w = .ok (.bool (!A.isNone)) w := neq_slcP w _ _ A n c Try.underlying79
set_option maxRecDepth 100000 in
theorem hsmade_zero (g : Nat) (w : World) (h : w.cell? ⟨g, 0, none⟩ = some (.slice none 0 0)) : Calls Try.prog 72 #[.pointer (some ⟨g, 0, none⟩)] w fun e w' => e = .returned (.bool false) ∧ w = w' := by
  have qT := neq_slc
  go_enter Try.func72, Try.ntmps72
  go_wp2
  go_ret
  exact ⟨rfl, rfl⟩
set_option maxRecDepth 100000 in
theorem hsmade (g b n c : Nat) (w : World) (h : w.cell? ⟨g, 0, none⟩ = some (.slice (some ⟨b, 0, none⟩) n c)) : Calls Try.prog 72 #[.pointer (some ⟨g, 0, none⟩)] w fun e w' => e = .returned (.bool true) ∧ w = w' := by
  have qT := neq_slc
  go_enter Try.func72, Try.ntmps72
  go_wp2
  go_ret
  exact ⟨rfl, rfl⟩
/-- How many places to is behind from, round an array of n. -/
def wayN (n a b : Int) : Int := (b - a + n) % n
set_option maxRecDepth 100000 in
theorem hsway (g b n c : Nat) (x y : Nat) (w : World) (h : w.cell? ⟨g, 0, none⟩ = some (.slice (some ⟨b, 0, none⟩) n c)) (hn : 0 < n) (hn1 : n ≤ 1000000) (hx : x < n) (hy : y < n) :
    Calls Try.prog 108 #[.pointer (some ⟨g, 0, none⟩), .int .i64 (x : Int), .int .i64 (y : Int)] w fun e w' => e = .returned (.int .i64 ((wayF n x y : Nat) : Int)) ∧ Below w.heap.size w w' := by
  unfold wayF
  go_enter Try.func108, Try.ntmps108
  go_wp2
  all_goals go_region
  all_goals go_wp2
  all_goals go_ret
  · rename_i h1
    exact ⟨ret_int (by rw [Int.emod_eq_of_lt (by omega) (by omega)]; omega), (Below.refl _ w).drew⟩
  · rename_i h1
    exact ⟨ret_int (by rw [← Int.add_emod_right, Int.emod_eq_of_lt (by omega) (by omega)]; omega), (Below.refl _ w).drew⟩
theorem hslen_nil (w : World) : Calls Try.prog 42 #[.pointer none] w fun e w' => e = .returned (.int .i64 0) ∧ w = w' := by
  go_enter Try.func42, Try.ntmps42
  go_wp2_with (go_at_call 72; refine (hsmade_nil _).mono ?_; rintro e w1 ⟨rfl, rfl⟩)
  go_ret
  exact ⟨rfl, rfl⟩
theorem hslen_zero (g : Nat) (w : World) (h : w.cell? ⟨g, 0, none⟩ = some (.slice none 0 0)) : Calls Try.prog 42 #[.pointer (some ⟨g, 0, none⟩)] w fun e w' => e = .returned (.int .i64 0) ∧ w = w' := by
  go_enter Try.func42, Try.ntmps42
  go_wp2_with (go_at_call 72; refine (hsmade_zero g _ h).mono ?_; rintro e w1 ⟨rfl, rfl⟩)
  go_ret
  exact ⟨rfl, rfl⟩
/-- A text's mark. -/
def mkStep (m : Int) (c : UInt8) : Int := IntKind.u64.wrap (bits .xor .u64 m (IntKind.u64.wrap (c.toNat : Int)) * 1099511628211)
def mkFold (l : List UInt8) : Int := l.foldl mkStep 14695981039346656037
def mkOf (l : List UInt8) : Int := bits .xor .u64 (mkFold l) (mkFold l / 4294967296)
theorem mkStep_in (m : Int) (c : UInt8) : 0 ≤ mkStep m c ∧ mkStep m c < 18446744073709551616 := by
  have := wrap_within .u64 (bits .xor .u64 m (IntKind.u64.wrap (c.toNat : Int)) * 1099511628211)
  exact ⟨this.1, Int.lt_of_le_of_lt this.2 (by decide)⟩
theorem mk_in (l : List UInt8) : 0 ≤ mkOf l ∧ mkOf l < 18446744073709551616 := by
  have := wrap_within .u64 (bits .xor .u64 (mkFold l) (mkFold l / 4294967296))
  exact ⟨bits_lo_u64 _ _ _, Int.lt_of_le_of_lt (bits_hi_u64 _ _ _) (by decide)⟩
theorem mkFold_snoc (l : List UInt8) (c : UInt8) : mkFold (l ++ [c]) = mkStep (mkFold l) c := by simp [mkFold]
theorem mkFold_in : ∀ l : List UInt8, 0 ≤ mkFold l ∧ mkFold l < 18446744073709551616 := by
  intro l
  rcases List.eq_nil_or_concat l with rfl | ⟨l', c, rfl⟩
  · exact ⟨by decide, by decide⟩
  · rw [List.concat_eq_append, mkFold_snoc]; exact mkStep_in _ _
/-- Where a key is looked for first. -/
def hmN (N : Nat) (key : List UInt8) : Nat := (mkOf key).toNat % N
set_option maxRecDepth 100000 in
theorem hshome (g b n c : Nat) (key : List UInt8) (w : World) (h : w.cell? ⟨g, 0, none⟩ = some (.slice (some ⟨b, 0, none⟩) n c)) (hn : 0 < n) (hn1 : n ≤ 1000000) :
    Calls Try.prog 106 #[.pointer (some ⟨g, 0, none⟩), .int .u64 (mkOf key)] w fun e w' => e = .returned (.int .i64 ((hmN n key : Nat) : Int)) ∧ w = w' := by
  obtain ⟨h0, h1⟩ := mk_in key
  have h5 : ((hmN n key : Nat) : Int) = mkOf key % (n : Int) := by rw [hmN, Int.natCast_emod, Int.toNat_of_nonneg h0]
  rw [h5]
  clear h5
  generalize mkOf key = m at *
  go_enter Try.func106, Try.ntmps106
  go_wp2
  go_ret
  have h2 : m % (n : Int) < n := Int.emod_lt_of_pos _ (by omega)
  have h3 : 0 ≤ m % (n : Int) := Int.emod_nonneg _ (by omega)
  have h4 : wrap64 (m % (n : Int)) = m % (n : Int) := IntWalk.wrap64_in _ (by omega)
  refine ⟨ret_int ?_, rfl⟩
  rw [h4]
theorem strB_at (key : List UInt8) {k : Nat} (hk : k < (strB key).size) : key.take (k + 1) = key.take k ++ [(strB key)[k]] := by
  have hk' : k < key.length := by rw [strB_size] at hk; exact hk
  exact List.take_succ_eq_append_getElem hk'
set_option maxRecDepth 100000 in
theorem hsmark (key : List UInt8) (w : World) (hl : key.length ≤ 1000000) :
    Calls Try.prog 73 #[.string (strB key)] w fun e w' => e = .returned (.int .u64 (mkOf key)) ∧ w = w' := by
  have hz := strB_size key
  have HZ := Lib.hid hz
  clear hz
  go_enter Try.func73, Try.ntmps73
  go_wp2
  go_loop [3, 7] (fun s i => ∃ (k : Nat) (m : Int), k ≤ key.length ∧ i = .int .i64 (k : Int) ∧ s = .int .u64 m ∧ Hid (m = mkFold (key.take k)) ∧ (0 ≤ m ∧ m < 18446744073709551616)) (fun _ i => key.length - (intOf i).toNat)
  case atStart => exact ⟨0, _, Nat.zero_le _, rfl, rfl, Lib.hid rfl, by omega⟩
  case round =>
    obtain ⟨k, m, hk, rfl, rfl, HM, hm⟩ := hrel
    go_wp2
    · rename_i hlt
      have hk' : k < key.length := by rw [HZ.out] at hlt; exact hlt
      refine ⟨⟨k + 1, mkStep m (strB key)[k], by omega, by simp, rfl, Lib.hid ?_, mkStep_in _ _⟩, by simp [intOf]; omega⟩
      rw [strB_at key hlt, mkFold_snoc, HM.out]; rfl
    · rename_i hge _
      go_ret
      have : key.take k = key := List.take_of_length_le (by rw [HZ.out] at hge; omega)
      rw [this] at HM
      refine ⟨?_, rfl⟩
      rw [mkOf, ← HM.out]; rfl
end Go.Proofs.Ythdaclbgandmcaa

/-
  A range over an iterator that reads memory behind its yield, whatever yield said: what a round that leaves keeps comes with it. Conditions are each theorem's own.
-/
namespace Go.Proofs.Ythdaclbgandmcaa
open Go.RowKit Go.Shelf

/-- An iterator's promise: its elements come in order; of each, when it comes, G is known; it asks Sx of where a round left. -/
def SeqSafe {α : Type} (m : Nat) (P : Program) (g : Nat) (lb : Array Value) (encs : α → Array Value) (G : List α → α → World → Prop) (Kp : World → World → Prop) (Sx : World → Prop) (S Sp : List α → Prop) (w : World) : Prop :=
  ∀ (l : Nat) (J Jx : List α → World → Prop) (W : World), Below w.heap.size w W → AbidesFrom W.heap.size J → AbidesFrom W.heap.size Jx → (∀ pre Y, Jx pre Y → Sx Y) →
    (∀ pre x X, J pre X → G pre x X → YieldAt Fence.wide (m - 1) P l (encs x) X fun e Y =>
      (e = .returned (.bool true) ∧ J (pre ++ [x]) Y ∧ Kp X Y) ∨ (e = .returned (.bool false) ∧ Jx (pre ++ [x]) Y)) →
    J [] W →
    CallsIn Fence.wide m P g (#[.func (.yield l) #[] #[]] ++ lb) W fun e Y => (∃ v, e = .returned v) ∧ ((∃ xs, S xs ∧ J xs Y) ∨ (∃ pre, Sp pre ∧ Jx pre Y))
theorem range_safe {α : Type} {n : Nat} {P : Program} {g : Operand} {ps : Array Tmp} {assign body : Code} {Q : Exit → Act → World → Prop} {a : Act} {w : World} (h1 : 1 ≤ n)
    {gf : Nat} {lb : Array Value} (hg : a.eval g = .func (.func gf) #[] lb) (eg : ∀ args w, (callFunc gf args).run P w = .ok (.enter gf args) w)
    {encs : α → Array Value} {G : List α → α → World → Prop} {Kp : World → World → Prop} {Sx : World → Prop} {S Sp : List α → Prop} {w0 : World} (hseq : SeqSafe (n - 1) P gf lb encs G Kp Sx S Sp w0)
    (hKt : ∀ {A B C : World}, Kp A B → Kp B C → Kp A C) (hKb : ∀ (W : World) (l : Nat) (r r' : Loop), w.heap.size ≤ l → W.heap[l]? = some (.loop r) → Kp W (W.putObj l (.loop r')))
    (hb0 : Below w0.heap.size w0 w) (hps : ∀ x, (encs x).size = ps.size)
    (hG : ∀ (pre : List α) (x : α) (W : World) (l : Nat) (r r' : Loop), G pre x W → w.heap.size ≤ l → W.heap[l]? = some (.loop r) → G pre x (W.putObj l (.loop r')))
    (I : List α → World → Prop) (Ix : Code → List α → World → Prop) (hI : OwnFrom w.heap.size I) (hIx : ∀ c, OwnFrom w.heap.size (Ix c)) (hSx : ∀ c pre W, Ix c pre W → Sx W) (h0 : I [] w) (a₁ : α → Act)
    (hassign : ∀ (l : Nat) (x : α) (W : World) (K : Act → World → Prop), K (a₁ x) W →
      assign.wpIn (Fence.wide.inRound l) (n - 1 - 1) P (Exit.then K (fun _ _ _ => False)) { tmps := (ps.zip (encs x)).foldl (fun t (p, v) => t.setIfInBounds p v) a.tmps, defers := [] } W)
    (hbody : ∀ (l : Nat) (pre : List α) (x : α) (W : World), I pre W → G pre x W → body.wpIn (Fence.wide.inRound l) (n - 1 - 1) P (ownPostG w.heap.size Kp I Ix (pre ++ [x]) W) (a₁ x) W)
    (hdone : ∀ (D : Nat) (xs : List α) (W : World), w.heap.size ≤ D → S xs → I xs W → W.heap[D]? = some (.deferred (some [])) → Q .normal { a with defers := { target := .collected D, args := #[] } :: a.defers } W)
    (hstop : ∀ (D : Nat) (c : Code) (pre : List α) (W : World), w.heap.size ≤ D → Sp pre → Ix c pre W → W.heap[D]? = some (.deferred (some [])) → c.wpIn Fence.wide n P Q { a with defers := { target := .collected D, args := #[] } :: a.defers } W) :
    (Code.rangeFunc g ps assign body).wpIn Fence.wide n P Q a w := by
  refine wpIn_rangeFunc fun fn _ => ?_
  have t1 := Two.first w (recd fn a ps assign body w.heap.size .ready none)
  have b1 : Below w0.heap.size w0 ((w.alloc (.deferred (some []))).alloc (.loop (recd fn a ps assign body w.heap.size .ready none))) := (hb0.alloc hb0.size _).alloc (by have := hb0.size; simp; omega) _
  have i1 : I [] ((w.alloc (.deferred (some []))).alloc (.loop (recd fn a ps assign body w.heap.size .ready none))) := hI.alloc _ (hI.alloc _ h0)
  have z1 : w.heap.size ≤ ((w.alloc (.deferred (some []))).alloc (.loop (recd fn a ps assign body w.heap.size .ready none))).heap.size := by simp; omega
  obtain ⟨W1, hW1⟩ : ∃ W1, W1 = (w.alloc (.deferred (some []))).alloc (.loop (recd fn a ps assign body w.heap.size .ready none)) := ⟨_, rfl⟩
  rw [← hW1] at t1 b1 i1 z1
  refine ⟨w.heap.size + 1, [{ target := .collected w.heap.size, args := #[] }], W1, { target := .fn (.func gf) lb, args := #[.func (.yield (w.heap.size + 1)) #[] #[]] }, W1, gf, #[.func (.yield (w.heap.size + 1)) #[] #[]] ++ lb, W1,
    ?_, ?_, fun _ _ => trivial, ?_, fun _ => h1, ?_⟩
  · rw [hW1]; exact run_enterLoop_outer fn a.tmps ps assign body
  · simp only [resolve, hg]; simp [go_sem]
  · simp [invoke, go_sem, eg]
  · refine (hseq (w.heap.size + 1) (fun pre W => I pre W ∧ Two W w.heap.size (recd fn a ps assign body w.heap.size .ready none))
      (fun pre W => ∃ c, Ix c pre W ∧ Two W w.heap.size (recd fn a ps assign body w.heap.size .done (some c))) _ b1 ?_ ?_ ?_ ?_ ⟨i1, t1⟩).mono ?_
    · rintro s A B row ⟨hi, ht⟩ hgr hr
      exact ⟨hI s A B row hi hgr fun r e => by obtain ⟨hB, o, ho, hw⟩ := hr r e; exact ⟨by omega, o, ho, Obj.not_cells_of_walk hw⟩, ht.abides hgr fun r e => (hr r e).2⟩
    · rintro s A B row ⟨c, hi, ht⟩ hgr hr
      exact ⟨c, hIx c s A B row hi hgr fun r e => by obtain ⟨hB, o, ho, hw⟩ := hr r e; exact ⟨by omega, o, ho, Obj.not_cells_of_walk hw⟩, ht.abides hgr fun r e => (hr r e).2⟩
    · rintro pre Y ⟨c, hi, _⟩
      exact hSx c pre Y hi
    · rintro pre x X ⟨hi, ht⟩ hgx
      refine ⟨fn, _, assign, body, run_yield ht.rec_ (hps x), roundIn_of_wpIn trivial (hassign _ x X _ ⟨_, run_beginRound ht.rec_ rfl, ?_⟩)⟩
      have hbu := ht.turn (recd fn a ps assign body w.heap.size .busy none)
      exact wpIn_mono (hbody _ pre x _ (hI.putObj _ hi (by omega) ht.rec_ rfl) (hG pre x X _ _ _ hgx (by omega) ht.rec_))
        (fun e b Y hp => by
          have hk0 : Kp X (X.putObj (w.heap.size + 1) (.loop (recd fn a ps assign body w.heap.size .busy none))) := hKb _ _ _ _ (by omega) ht.rec_
          exact round_end (P := P) (pre := pre ++ [x]) (Kp := Kp) (I := I) (Ix := Ix) hI hIx hKt hKb X hk0 hbu e b hp)
    · rintro e Y ⟨⟨v, rfl⟩, ⟨xs, hs, hi, ht⟩ | ⟨pre, hs, c, hi, ht⟩⟩
      · exact ⟨none, _, run_endLoop ht.rec_ (by simp [recd]), hdone _ xs _ (Nat.le_refl _) hs (hI.putObj _ hi (by omega) ht.rec_ rfl) (ht.turn _).calls⟩
      · exact ⟨some c, _, run_endLoop ht.rec_ (by simp [recd]), hstop _ c pre _ (Nat.le_refl _) hs ((hIx c).putObj _ hi (by omega) ht.rec_ rfl) (ht.turn _).calls⟩
/-- These cells hold what they held. -/
def KeepC (ps : List Addr) (X Y : World) : Prop := ∀ p ∈ ps, Y.cell? p = X.cell? p
theorem KeepC.refl (ps : List Addr) (X : World) : KeepC ps X X := fun _ _ => rfl
theorem KeepC.trans {ps : List Addr} {X Y Z : World} (h : KeepC ps X Y) (k : KeepC ps Y Z) : KeepC ps X Z := fun p hp => (k p hp).trans (h p hp)
theorem KeepC.of_below {ps : List Addr} {B : Nat} {X Y : World} (h : Below B X Y) (hp : ∀ p ∈ ps, p.block < B) : KeepC ps X Y := fun p hm => h.cell (hp p hm)
theorem KeepC.loop {ps : List Addr} {X : World} {l : Nat} {r r' : Loop} (hl : X.heap[l]? = some (.loop r)) : KeepC ps X (X.putObj l (.loop r')) := fun p _ => by
  by_cases h : p.block = l
  · unfold World.cell?
    rw [h, World.putObj_heap_same (heap_lt hl), hl]
  · exact World.cell?_of_block (World.putObj_heap_other h)
theorem KeepC.row {ps : List Addr} {X : World} {b : Nat} {cs : Array Value} (hp : ∀ p ∈ ps, p.block ≠ b) : KeepC ps X (X.setRow b cs) := fun p hm => World.cell?_of_block (setRow_other X b p.block cs (hp p hm))
theorem KeepC.cell {ps : List Addr} {X : World} {a : Addr} {v : Value} (hp : ∀ p ∈ ps, p.block ≠ a.block) : KeepC ps X (X.setCell a v) := fun p hm => World.cell?_of_block (Below.heap_setCell X a v p.block (hp p hm))
/-! ### A region that draws its order, inside a round -/
section
variable {l n : Nat} {P : Program} {ops : Array Oper} {Q : Exit → Act → World → Prop} {md : Region.Mode}
/-- No operation is a defer statement. -/
def noDeferH (ops : Array Oper) : Bool := ops.all fun o => match o.op with | .defer _ => false | _ => true
theorem noDefer_atH {i : Nat} {o : Oper} (h : noDeferH ops = true) (hi : ops[i]? = some o) : ∀ c, o.op ≠ .defer c := by
  intro c e
  obtain ⟨hlt, rfl⟩ := Array.getElem?_eq_some_iff.1 hi
  have := Array.all_eq_true.1 h i hlt
  rw [e] at this; cases this
theorem oper_roundH {o : Oper} {a : Act} {w : World} {K : Act → World → Prop} (hd : ∀ c, o.op ≠ .defer c) (h : o.wp P a w K Q) : o.wpIn (Fence.wide.inRound l) n P a w K Q := by
  refine ⟨fun _ _ => trivial, ?_⟩
  rw [Fence.inRound_round, Oper.semAt_some l _ o hd]
  unfold Oper.wp at h
  generalize (execOp a.eval o).run P w = r at *
  cases r with
  | ok x w' =>
    cases x <;> simp only [Oper.upon, Oper.uponIn] at h ⊢ <;>
      first
        | exact h
        | exact ⟨fun e => absurd e (by simp [Fence.wide]), ((callsIn_wide (n := n - 1)).2 h).inRound l⟩
        | exact ⟨fun e => absurd e (by simp [Fence.wide]), fun c cs _ => by obtain ⟨v, w2, r, s⟩ := h c cs; exact ⟨v, w2, r, stepsIn_wide.2 s⟩⟩
        | exact h.elim
  | halt x w' => cases x <;> simp only [Oper.upon, Oper.uponIn] at h ⊢ <;> exact h
theorem op_roundH {i : Nat} {a : Act} {w : World} {K : Act → World → Prop} (hd : noDeferH ops = true) (hno : ¬ LetsOut Q) (h : wpOp P ops Q i K a w) : wpOpIn (Fence.wide.inRound l) n P ops Q i K a w := by
  unfold wpOp at h
  unfold wpOpIn
  split
  · rename_i e; simpa [e] using h
  · rename_i o e
    simp only [e] at h
    split
    · rename_i hw
      simp only [hw, if_true] at h
      rcases h with h | ⟨_, h⟩
      · exact oper_roundH (noDefer_atH hd e) h
      · exact absurd h hno
    · rename_i hw
      simp only [hw] at h
      exact ⟨fun _ _ => trivial, h⟩
theorem any_roundH (hd : noDeferH ops = true) (hno : ¬ LetsOut Q) : ∀ (fuel : Nat) (listed : Array Bool) (a : Act) (w : World), wpAny P md ops Q fuel listed a w → wpAnyIn (Fence.wide.inRound l) n P md ops Q fuel listed a w
  | 0, _, _, _, h => h
  | fuel + 1, _, _, _, h => ⟨h.1, fun i hi => wpOpIn_mono (fun a' w' h' => any_roundH hd hno fuel _ a' w' h') (op_roundH hd hno (h.2 i hi))⟩
theorem region_roundH {S : World → Prop} {id : Nat} {a : Act} {w : World} (hm : P.follows .mixedOrders = true) (hd : noDeferH ops = true) (hno : ¬ LetsOut Q) (hS : S w.drew)
    (h : S w.drew → wpAnyH P .any ops Q S ops.size (Array.replicate ops.size false) a w.drew) : (Code.region id ops true).wpIn (Fence.wide.inRound l) n P Q a w :=
  wpIn_region_any hm (any_roundH hd hno _ _ _ _ (wpAny_of_held _ _ _ _ (h hS)))
end
end Go.Proofs.Ythdaclbgandmcaa

/-
  A region that draws its order and calls an iterator's yield: a load is taken ahead where each world of a class gives it the same value; the walk's moves, inside the widest fence. Conditions are each theorem's own.
-/
namespace Go.Proofs.Ythdaclbgandmcaa
open Go.RowKit

section
variable {n : Nat} {P : Program} {ops : Array Oper} {Q : Exit → Act → World → Prop} {md : Region.Mode} {S : World → Prop}
/-- Whatever comes up next, S holds behind it. -/
def anyHI (n : Nat) (P : Program) (md : Region.Mode) (ops : Array Oper) (Q : Exit → Act → World → Prop) (S : World → Prop) : Nat → Array Bool → Act → World → Prop
  | 0, listed, a, w => Region.ready md ops listed = [] ∧ Q .normal a w
  | fuel + 1, listed, a, w => (Region.ready md ops listed = [] → Q .normal a w) ∧
    ∀ i ∈ Region.ready md ops listed, wpOpIn Fence.wide n P ops Q i (fun a' w' => S w' ∧ anyHI n P md ops Q S fuel (listed.setIfInBounds i true) a' w') a w
theorem any_of_HI : ∀ (fuel : Nat) (listed : Array Bool) (a : Act) (w : World), anyHI n P md ops Q S fuel listed a w → wpAnyIn Fence.wide n P md ops Q fuel listed a w
  | 0, _, _, _, h => h
  | fuel + 1, _, _, _, h => ⟨h.1, fun i hi => wpOpIn_mono (fun a' w' h' => any_of_HI fuel _ a' w' h'.2) (h.2 i hi)⟩
theorem opI_here {i : Nat} {o : Oper} {v : Value} {a : Act} {w : World} {K : Act → World → Prop} (hi : ops[i]? = some o) (hy : YieldsIf P ops S o v a) (hS : S w) (h : K (a.put o.dst v) w) : wpOpIn Fence.wide n P ops Q i K a w := by
  unfold wpOpIn
  simp only [hi]
  rcases hy with ⟨hw, hv⟩ | ⟨hw, rfl⟩
  · rw [if_pos hw]
    refine ⟨fun _ _ => trivial, ?_⟩
    rw [show Fence.wide.round = none from rfl, Oper.semAt_none, hv w hS]
    exact h
  · rw [if_neg (by rw [hw]; decide)]
    exact ⟨fun _ _ => trivial, h⟩
/-- Another operation, with that one's value there already or not. -/
theorem opI_swap {j : Nat} {oi oj : Oper} {v : Value} (hj : ops[j]? = some oj) (hap : oi.apart ops oj = true) (hsi : ∀ cs b, oi.op ≠ .select cs b) (hsj : ∀ cs b, oj.op ≠ .select cs b)
    (hQ : ∀ c a w, Q (.panic c) (a.put oi.dst v) w → Q (.panic c) a w) {K : Act → World → Prop} {a : Act} {w : World} (hy : YieldsIf P ops S oi v a) (h : wpOpIn Fence.wide n P ops Q j K (a.put oi.dst v) w) :
    wpOpIn Fence.wide n P ops Q j (fun a' w' => YieldsIf P ops S oi v a' ∧ K (a'.put oi.dst v) w') a w := by
  obtain ⟨h1, h2, h3⟩ := Oper.apart_spec hap
  have stay : ∀ (b : Act), YieldsIf P ops S oi v b → ∀ u, YieldsIf P ops S oi v (b.put oj.dst u) := fun b hb u => hb.of_same (execOp_put oi hsi b oj.dst u h3) (wanted_put oi b oj.dst u h3)
  unfold wpOpIn at h ⊢
  simp only [hj] at h ⊢
  rw [wanted_put oj a oi.dst v h1] at h
  by_cases hw : Region.wanted oj (yielded ops a.tmps) = true
  · rw [if_pos hw] at h ⊢
    refine ⟨fun _ _ => trivial, ?_⟩
    have h := h.2
    rw [show Fence.wide.round = none from rfl, Oper.semAt_none] at h ⊢
    rw [execOp_put oj hsj a oi.dst v h1] at h
    generalize (execOp a.eval oj).run P w = r at h ⊢
    rcases r with ⟨x, w'⟩ | ⟨x, w'⟩
    · cases x with
      | value u => exact ⟨stay a hy u, by rw [← Act.put_comm a v u h2]; exact h⟩
      | skip => exact ⟨stay a hy _, by rw [← Act.put_comm a v undef h2]; exact h⟩
      | defer d => exact ⟨stay { a with defers := d :: a.defers } (hy.of_same rfl rfl) _, by rw [← Act.put_comm _ v undef h2, ← Act.put_defers]; exact h⟩
      | enter f args =>
        refine ⟨h.1, CallsIn.mono h.2 fun e w'' he => ?_⟩
        cases e with
        | returned u => exact ⟨stay a hy u, by rw [← Act.put_comm a v u h2]; exact he⟩
        | panicked c => exact hQ _ _ _ he
        | outgrown => exact he
      | row r args => exact ⟨h.1, RowsIn.mono h.2 fun u w'' he => ⟨stay a hy u, by rw [← Act.put_comm a v u h2]; exact he⟩⟩
      | round l f tmps assign body =>
        refine ⟨h.1, RoundIn.mono h.2 fun e w'' he => ?_⟩
        cases e with
        | returned u => exact ⟨stay a hy u, by rw [← Act.put_comm a v u h2]; exact he⟩
        | panicked c => exact hQ _ _ _ he
        | outgrown => exact he
      | _ => exact h
    · cases x with
      | panic u => exact hQ _ _ _ h
      | _ => exact h
  · rw [if_neg hw] at h ⊢
    exact ⟨fun _ _ => trivial, stay a hy _, by rw [← Act.put_comm a v undef h2]; exact h.2⟩
theorem takeI_all {i : Nat} {oi : Oper} {v : Value} (hi : ops[i]? = some oi) (hsel : ∀ (j : Nat) (o : Oper) cs b, ops[j]? = some o → o.op ≠ .select cs b) (hQ : ∀ c a w, Q (.panic c) (a.put oi.dst v) w → Q (.panic c) a w) :
    ∀ (fuel : Nat) (listed : Array Bool) (a : Act) (w : World), (∀ j oj, ops[j]? = some oj → j ≠ i → listed.getD j true = false → (∀ e ∈ oj.after, Region.binds md e = true → e.on ≠ i) → oi.apart ops oj = true) →
      i ∈ Region.ready md ops listed → YieldsIf P ops S oi v a → S w → anyHI n P md ops Q S fuel (listed.setIfInBounds i true) (a.put oi.dst v) w → anyHI n P md ops Q S (fuel + 1) listed a w
  | fuel, listed, a, w, free, hr, hy, hS, H => by
    refine ⟨fun h => (by rw [h] at hr; cases hr), fun j hj => ?_⟩
    by_cases hji : j = i
    · subst hji; exact opI_here hi hy hS ⟨hS, H⟩
    have hj' := ready_mono hj hji
    cases fuel with
    | zero => rw [H.1] at hj'; cases hj'
    | succ fuel =>
      obtain ⟨hjun, oj, hoj, hall⟩ := mem_ready.1 hj
      have hnot : ∀ e ∈ oj.after, Region.binds md e = true → e.on ≠ i := fun e he hb heq => by
        have g1 := hall e he hb
        have g0 := (mem_ready.1 hr).1
        rw [heq] at g1
        rcases Nat.lt_or_ge i listed.size with h' | h'
        · simp [h'] at g0 g1; rw [g0] at g1; cases g1
        · simp [Array.getElem?_eq_none h'] at g1
      refine wpOpIn_mono (fun a' w' h3 => ⟨h3.2.1, takeI_all hi hsel hQ fuel (listed.setIfInBounds j true) a' w' (fun k ok hk hki hun hno => free k ok hk hki ?_ hno) (ready_mono hr (Ne.symm hji)) h3.1 h3.2.1 (by rw [Array.setIfInBounds_comm _ _ hji]; exact h3.2.2)⟩)
        (opI_swap hoj (free j oj hoj hji hjun hnot) (fun cs b => hsel i oi cs b hi) (fun cs b => hsel j oj cs b hoj) hQ hy (H.2 j hj'))
      by_cases hjk : j = k
      · subst hjk; exact hjun
      · rw [getD_set_ne true hjk] at hun; exact hun
/-- An operation that yields its value in each world of the class is taken first. -/
theorem pureI {i : Nat} {oi : Oper} {v : Value} {fuel : Nat} {listed : Array Bool} {a : Act} {w : World} (hi : ops[i]? = some oi) (hs : Region.noSelect ops = true) (hf : Region.free md ops listed i = true) (hr : (Region.ready md ops listed).contains i = true)
    (hQ : ∀ c a w, Q (.panic c) (a.put oi.dst v) w → Q (.panic c) a w) (hw : Region.wanted oi (yielded ops a.tmps) = true) (hrun : ∀ w, S w → (execOp a.eval oi).run P w = .ok (.value v) w) (hS : S w)
    (h : S w → anyHI n P md ops Q S fuel (listed.setIfInBounds i true) (a.put oi.dst v) w) : anyHI n P md ops Q S (fuel + 1) listed a w :=
  takeI_all hi (Region.noSelect_spec hs) hQ fuel listed a w (Region.free_spec hi hf) (by simpa using hr) (.inl ⟨hw, hrun⟩) hS (h hS)
/-- The only one that may come up. -/
theorem oneI {i : Nat} {oi : Oper} {fuel : Nat} {listed : Array Bool} {a : Act} {w : World} (hr : Region.ready md ops listed = [i]) (hi : ops[i]? = some oi) (hw : Region.wanted oi (yielded ops a.tmps) = true)
    (h : ∀ K : Act → World → Prop, (∀ a w, S w → (S w → anyHI n P md ops Q S fuel (listed.setIfInBounds i true) a w) → K a w) → oi.wpIn Fence.wide n P a w K Q) : anyHI n P md ops Q S (fuel + 1) listed a w := by
  refine ⟨fun h0 => (by rw [hr] at h0; cases h0), fun j hj => ?_⟩
  rw [hr, List.mem_singleton] at hj
  subst hj
  unfold wpOpIn
  simp only [hi]
  rw [if_pos hw]
  exact h _ (fun a w hS hW => ⟨hS, hW hS⟩)
theorem doneI {listed : Array Bool} {a : Act} {w : World} (hr : Region.ready md ops listed = []) (h : Q .normal a w) : ∀ fuel, anyHI n P md ops Q S fuel listed a w
  | 0 => ⟨hr, h⟩
  | _ + 1 => ⟨fun _ => h, by rw [hr]; simp⟩
theorem regionI {id : Nat} {a : Act} {w : World} (hm : P.follows .mixedOrders = true) (hS : S w.drew) (h : S w.drew → anyHI n P .any ops Q S ops.size (Array.replicate ops.size false) a w.drew) : (Code.region id ops true).wpIn Fence.wide n P Q a w :=
  wpIn_region_any hm (any_of_HI _ _ _ _ (h hS))
/-- A call of a function of the program, by its plain contract. -/
theorem callI {o : Oper} {a : Act} {w : World} {K : Act → World → Prop} {f : FuncId} {args : Array Value} (hrun : (execOp a.eval o).run P w = .ok (.enter f args) w) (h : Calls P f args w fun e w' => ∃ v, e = .returned v ∧ K (a.put o.dst v) w') : o.wpIn Fence.wide n P a w K Q := by
  refine ⟨fun _ _ => trivial, ?_⟩
  rw [show Fence.wide.round = none from rfl, Oper.semAt_none, hrun]
  exact ⟨fun h => (by cases h), (callsIn_wide.2 h).mono fun e w' he => by obtain ⟨v, rfl, hk⟩ := he; exact hk⟩
/-- A call of yield. -/
theorem yieldI {o : Oper} {a : Act} {w : World} {K : Act → World → Prop} {l : Nat} {args : Array Value} {R : Ending → World → Prop} (hrun : (execOp a.eval o).run P w = (Instr.yield l args).run P w) (hY : YieldAt Fence.wide (n - 1) P l args w R)
    (h : ∀ e w', R e w' → ∃ v, e = .returned v ∧ K (a.put o.dst v) w') : o.wpIn Fence.wide n P a w K Q := by
  obtain ⟨fn, tmps, assign, body, hy, hR⟩ := hY
  refine ⟨fun _ _ => trivial, ?_⟩
  rw [show Fence.wide.round = none from rfl, Oper.semAt_none, hrun, hy]
  exact ⟨fun h => (by cases h), hR.mono fun e w' he => by obtain ⟨v, rfl, hk⟩ := h e w' he; exact hk⟩
end
/-! ### A range that never leaves its iterator early -/
/-- What a list of elements is said of stays, whatever is laid, whatever walk's object turns, and whatever is written into one block of cells of a type. -/
def StaysAt {β : Type} (T : TypeId) (B : Nat) (J : β → World → Prop) : Prop :=
  ∀ s W W' row, J s W → W.grownBy W' row → (∀ k, row = some k → (B ≤ k ∧ ∃ o : Obj, W.heap[k]? = some o ∧ o.isWalk = true) ∨ (k = B ∧ ∃ cs, W.heap[k]? = some (.cells cs T (0, 0)))) → J s W'
/-- An iterator's promise where each round goes on: its elements come in order, all of them; of each, when it comes, G is known. It may write into the first block that it lays, if that is of type T. -/
def SeqAll {α : Type} (m : Nat) (P : Program) (T : TypeId) (g : Nat) (lb : Array Value) (encs : α → Array Value) (G : List α → α → World → Prop) (Kp : World → World → Prop) (S : List α → Prop) (w : World) : Prop :=
  ∀ (l : Nat) (J : List α → World → Prop) (W : World), Below w.heap.size w W → StaysAt T W.heap.size J →
    (∀ pre x X, J pre X → G pre x X → W.heap.size < X.heap.size → YieldAt Fence.wide (m - 1) P l (encs x) X fun e Y => e = .returned (.bool true) ∧ J (pre ++ [x]) Y ∧ Kp X Y) →
    J [] W →
    CallsIn Fence.wide m P g (#[.func (.yield l) #[] #[]] ++ lb) W fun e Y => (∃ v, e = .returned v) ∧ ∃ xs, S xs ∧ J xs Y
theorem range_all {α : Type} {n : Nat} {P : Program} {T : TypeId} {g : Operand} {ps : Array Tmp} {assign body : Code} {Q : Exit → Act → World → Prop} {a : Act} {w : World} (h1 : 1 ≤ n)
    {gf : Nat} {lb : Array Value} (hg : a.eval g = .func (.func gf) #[] lb) (eg : ∀ args w, (callFunc gf args).run P w = .ok (.enter gf args) w)
    {encs : α → Array Value} {G : List α → α → World → Prop} {Kp : World → World → Prop} {S : List α → Prop} {w0 : World} (hseq : SeqAll (n - 1) P T gf lb encs G Kp S w0)
    (hKt : ∀ {A B C : World}, Kp A B → Kp B C → Kp A C) (hKb : ∀ (W : World) (l : Nat) (r r' : Loop), w.heap.size ≤ l → W.heap[l]? = some (.loop r) → Kp W (W.putObj l (.loop r')))
    (hb0 : Below w0.heap.size w0 w) (hps : ∀ x, (encs x).size = ps.size)
    (hG : ∀ (pre : List α) (x : α) (W : World) (l : Nat) (r r' : Loop), G pre x W → w.heap.size ≤ l → W.heap[l]? = some (.loop r) → G pre x (W.putObj l (.loop r')))
    (I : List α → World → Prop) (hI : OwnFrom w.heap.size I) (hI2 : ∀ s W W' k cs, I s W → W.grownBy W' (some k) → k = w.heap.size + 2 → W.heap[k]? = some (.cells cs T (0, 0)) → I s W') (h0 : I [] w) (a₁ : α → World → Act) (asg : α → World → World) (hag : ∀ (x : α) (W : World), W.grownBy (asg x W) none) (hGa : ∀ pre x W, G pre x W → G pre x (asg x W)) (hKa : ∀ (x : α) (W : World), w.heap.size ≤ W.heap.size → Kp W (asg x W))
    (hassign : ∀ (l : Nat) (x : α) (W : World) (K : Act → World → Prop), K (a₁ x W) (asg x W) →
      assign.wpIn (Fence.wide.inRound l) (n - 1 - 1) P (Exit.then K (fun _ _ _ => False)) { tmps := (ps.zip (encs x)).foldl (fun t (p, v) => t.setIfInBounds p v) a.tmps, defers := [] } W)
    (hbody : ∀ (l : Nat) (pre : List α) (x : α) (V W : World), I pre W → G pre x W → w.heap.size + 2 < W.heap.size → (∃ r, W = (asg x V).putObj l (.loop r)) → l < V.heap.size → body.wpIn (Fence.wide.inRound l) (n - 1 - 1) P (ownPostG w.heap.size Kp I (fun _ _ _ => False) (pre ++ [x]) W) (a₁ x V) W)
    (hdone : ∀ (D : Nat) (xs : List α) (W : World), w.heap.size ≤ D → S xs → I xs W → W.heap[D]? = some (.deferred (some [])) → Q .normal { a with defers := { target := .collected D, args := #[] } :: a.defers } W) :
    (Code.rangeFunc g ps assign body).wpIn Fence.wide n P Q a w := by
  refine wpIn_rangeFunc fun fn _ => ?_
  have t1 := Two.first w (recd fn a ps assign body w.heap.size .ready none)
  have b1 : Below w0.heap.size w0 ((w.alloc (.deferred (some []))).alloc (.loop (recd fn a ps assign body w.heap.size .ready none))) := (hb0.alloc hb0.size _).alloc (by have := hb0.size; simp; omega) _
  have i1 : I [] ((w.alloc (.deferred (some []))).alloc (.loop (recd fn a ps assign body w.heap.size .ready none))) := hI.alloc _ (hI.alloc _ h0)
  have z1 : ((w.alloc (.deferred (some []))).alloc (.loop (recd fn a ps assign body w.heap.size .ready none))).heap.size = w.heap.size + 2 := by simp
  obtain ⟨W1, hW1⟩ : ∃ W1, W1 = (w.alloc (.deferred (some []))).alloc (.loop (recd fn a ps assign body w.heap.size .ready none)) := ⟨_, rfl⟩
  rw [← hW1] at t1 b1 i1 z1
  refine ⟨w.heap.size + 1, [{ target := .collected w.heap.size, args := #[] }], W1, { target := .fn (.func gf) lb, args := #[.func (.yield (w.heap.size + 1)) #[] #[]] }, W1, gf, #[.func (.yield (w.heap.size + 1)) #[] #[]] ++ lb, W1,
    ?_, ?_, fun _ _ => trivial, ?_, fun _ => h1, ?_⟩
  · rw [hW1]; exact run_enterLoop_outer fn a.tmps ps assign body
  · simp only [resolve, hg]; simp [go_sem]
  · simp [invoke, go_sem, eg]
  · refine (hseq (w.heap.size + 1) (fun pre W => I pre W ∧ Two W w.heap.size (recd fn a ps assign body w.heap.size .ready none)) _ b1 ?_ ?_ ⟨i1, t1⟩).mono ?_
    · rintro s A B row ⟨hi, ht⟩ hgr hr
      cases row with
      | none => exact ⟨hI s A B none hi hgr (fun r e => by cases e), ht.abides hgr (fun r e => by cases e)⟩
      | some k =>
        rcases hr k rfl with ⟨hk, o, ho, hw⟩ | ⟨hk, cs, ho⟩
        · exact ⟨hI s A B _ hi hgr (fun r e => by cases e; exact ⟨by omega, o, ho, Obj.not_cells_of_walk hw⟩), ht.abides hgr (fun r e => by cases e; exact ⟨o, ho, hw⟩)⟩
        · refine ⟨hI2 s A B k cs hi hgr (by omega) ho, ⟨(hgr.block _ (heap_lt ht.calls) (fun e => ?_)).trans ht.calls, (hgr.block _ (heap_lt ht.rec_) (fun e => ?_)).trans ht.rec_⟩⟩
          · injection e with e; rw [← e, ht.calls] at ho; cases ho
          · injection e with e; rw [← e, ht.rec_] at ho; cases ho
    · rintro pre x X ⟨hi, ht⟩ hgx hzX
      have ha := ht.abides (hag x X) (fun r e => by cases e)
      have hia := hI pre X _ none hi (hag x X) (fun r e => by cases e)
      have hza := (hag x X).size
      refine ⟨fn, _, assign, body, run_yield ht.rec_ (hps x), roundIn_of_wpIn trivial (hassign _ x X _ ⟨_, run_beginRound ha.rec_ rfl, ?_⟩)⟩
      have hbu := ha.turn (recd fn a ps assign body w.heap.size .busy none)
      have hk0 : Kp X ((asg x X).putObj (w.heap.size + 1) (.loop (recd fn a ps assign body w.heap.size .busy none))) := hKt (hKa x X (by have := heap_lt ht.rec_; omega)) (hKb _ _ _ _ (by omega) ha.rec_)
      refine wpIn_mono (hbody _ pre x X _ (hI.putObj _ hia (by omega) ha.rec_ rfl) (hG pre x _ _ _ _ (hGa pre x X hgx) (by omega) ha.rec_) (by simp; omega) ⟨_, rfl⟩ (heap_lt ht.rec_)) (fun e b Y hp => ?_)
      cases e with
      | normal =>
        have ht2 := hbu.keeps hp.1
        exact ⟨_, _, run_endRound none ht2.rec_, rfl, ⟨hI.putObj _ hp.2.2 (by omega) ht2.rec_ rfl, ht2.turn _⟩, hKt (hKt hk0 hp.2.1) (hKb _ _ _ _ (by omega) ht2.rec_)⟩
      | ret => exact hp.2.elim
      | exit id => exact hp.2.elim
      | goto t => exact hp.2.elim
      | panic c => exact hp.elim
      | outgrown => exact hp.elim
    · rintro e Y ⟨⟨v, rfl⟩, xs, hs, hi, ht⟩
      exact ⟨none, _, run_endLoop ht.rec_ (by simp [recd]), hdone _ xs _ (Nat.le_refl _) hs (hI.putObj _ hi (by omega) ht.rec_ rfl) (ht.turn _).calls⟩
/-- The same where the round begins by a box for what came. -/
theorem range_box {α : Type} {n : Nat} {P : Program} {T : TypeId} {g : Operand} {ps : Array Tmp} {assign body : Code} {Q : Exit → Act → World → Prop} {a : Act} {w : World} (h1 : 1 ≤ n) (d : Tmp) (T' : TypeId)
    {gf : Nat} {lb : Array Value} (hg : a.eval g = .func (.func gf) #[] lb) (eg : ∀ args w, (callFunc gf args).run P w = .ok (.enter gf args) w)
    {encs : α → Array Value} {cells : α → Array Value} {G : List α → α → World → Prop} {Kp : World → World → Prop} {S : List α → Prop} {w0 : World} (hseq : SeqAll (n - 1) P T gf lb encs G Kp S w0)
    (hKt : ∀ {A B C : World}, Kp A B → Kp B C → Kp A C) (hKb : ∀ (W : World) (l : Nat) (r r' : Loop), w.heap.size ≤ l → W.heap[l]? = some (.loop r) → Kp W (W.putObj l (.loop r')))
    (hb0 : Below w0.heap.size w0 w) (hps : ∀ x, (encs x).size = ps.size)
    (hG : ∀ (pre : List α) (x : α) (W : World) (l : Nat) (r r' : Loop), G pre x W → w.heap.size ≤ l → W.heap[l]? = some (.loop r) → G pre x (W.putObj l (.loop r')))
    (I : List α → World → Prop) (hI : OwnFrom w.heap.size I) (hI2 : ∀ s W W' k cs, I s W → W.grownBy W' (some k) → k = w.heap.size + 2 → W.heap[k]? = some (.cells cs T (0, 0)) → I s W') (h0 : I [] w)
    (hGa : ∀ pre x W o, G pre x W → G pre x (W.alloc o)) (hKa : ∀ (W : World) o, w.heap.size ≤ W.heap.size → Kp W (W.alloc o))
    (hassign : ∀ (l : Nat) (x : α) (W : World) (K : Act → World → Prop), K ((({ tmps := (ps.zip (encs x)).foldl (fun t (p, v) => t.setIfInBounds p v) a.tmps, defers := [] } : Act).put (some d) (.pointer (some ⟨W.heap.size, 0, none⟩))).put none undef) (W.alloc (.cells (cells x) T')) →
      assign.wpIn (Fence.wide.inRound l) (n - 1 - 1) P (Exit.then K (fun _ _ _ => False)) { tmps := (ps.zip (encs x)).foldl (fun t (p, v) => t.setIfInBounds p v) a.tmps, defers := [] } W)
    (hbody : ∀ (l : Nat) (pre : List α) (x : α) (b : Nat) (W : World), I pre W → G pre x W → w.heap.size + 2 < W.heap.size → W.heap[b]? = some (.cells (cells x) T' (0, 0)) → body.wpIn (Fence.wide.inRound l) (n - 1 - 1) P (ownPostG w.heap.size Kp I (fun _ _ _ => False) (pre ++ [x]) W)
      ((({ tmps := (ps.zip (encs x)).foldl (fun t (p, v) => t.setIfInBounds p v) a.tmps, defers := [] } : Act).put (some d) (.pointer (some ⟨b, 0, none⟩))).put none undef) W)
    (hdone : ∀ (D : Nat) (xs : List α) (W : World), w.heap.size ≤ D → S xs → I xs W → W.heap[D]? = some (.deferred (some [])) → Q .normal { a with defers := { target := .collected D, args := #[] } :: a.defers } W) :
    (Code.rangeFunc g ps assign body).wpIn Fence.wide n P Q a w :=
  range_all h1 hg eg hseq hKt hKb hb0 hps hG I hI hI2 h0
    (fun x W => (({ tmps := (ps.zip (encs x)).foldl (fun t (p, v) => t.setIfInBounds p v) a.tmps, defers := [] } : Act).put (some d) (.pointer (some ⟨W.heap.size, 0, none⟩))).put none undef) (fun x W => W.alloc (.cells (cells x) T'))
    (fun x W => World.grownBy_alloc W _ none) (fun pre x W h => hGa pre x W _ h) (fun x W hz => hKa W _ hz) hassign
    (fun l pre x V W hi hg hz hW hl => hbody l pre x V.heap.size W hi hg hz (by
      obtain ⟨r, rfl⟩ := hW
      rw [World.putObj_heap_other (by omega)]
      exact World.alloc_heap_new V _)) hdone
/-- An operation of a list within a round that yields a value, or stores. -/
theorem listR_val {l n : Nat} {P : Program} {ops : Array Oper} {rest : List Oper} {o : Oper} {a : Act} {w : World} {Q : Exit → Act → World → Prop} {v : Value} (hg : o.guard = none) (hd : ∀ c, o.op ≠ .defer c) (hrun : (execOp a.eval o).run P w = .ok (.value v) w)
    (h : wpListIn (Fence.wide.inRound l) n P ops Q rest (a.put o.dst v) w) : wpListIn (Fence.wide.inRound l) n P ops Q (o :: rest) a w :=
  wpListIn_plain hg fun K hK => ⟨fun _ _ => trivial, by rw [Oper.semAt_plain _ _ _ hd, hrun]; exact hK _ _ h⟩
theorem listR_skip {l n : Nat} {P : Program} {ops : Array Oper} {rest : List Oper} {o : Oper} {a : Act} {w w' : World} {Q : Exit → Act → World → Prop} (hg : o.guard = none) (hd : ∀ c, o.op ≠ .defer c) (hrun : (execOp a.eval o).run P w = .ok .skip w')
    (h : wpListIn (Fence.wide.inRound l) n P ops Q rest (a.put o.dst undef) w') : wpListIn (Fence.wide.inRound l) n P ops Q (o :: rest) a w :=
  wpListIn_plain hg fun K hK => ⟨fun _ _ => trivial, by rw [Oper.semAt_plain _ _ _ hd, hrun]; exact hK _ _ h⟩
theorem listR_grow {l n : Nat} {P : Program} {ops : Array Oper} {rest : List Oper} {o : Oper} {a : Act} {w w' : World} {Q : Exit → Act → World → Prop} {v : Value} (hg : o.guard = none) (hd : ∀ c, o.op ≠ .defer c) (hrun : (execOp a.eval o).run P w = .ok (.value v) w')
    (h : wpListIn (Fence.wide.inRound l) n P ops Q rest (a.put o.dst v) w') : wpListIn (Fence.wide.inRound l) n P ops Q (o :: rest) a w :=
  wpListIn_plain hg fun K hK => ⟨fun _ _ => trivial, by rw [Oper.semAt_plain _ _ _ hd, hrun]; exact hK _ _ h⟩
end Go.Proofs.Ythdaclbgandmcaa

/-
  Parts that come in any order, in plain lists: what is answered, what is put together, what is missing. No program. Conditions are each theorem's own.
-/
namespace Go.Proofs.Ythdaclbgandmcaa
open Go.RowKit

/-- A part. -/
structure Pc where
  off : Int
  more : Bool
  b : List UInt8
  deriving DecidableEq
def Pc.len (p : Pc) : Int := (p.b.length : Int)
def Pc.stop (p : Pc) : Int := p.off + p.len
def sharing (x p : Pc) : Bool := (decide (0 < x.len) && decide (0 < p.len) && decide (x.off < p.stop) && decide (p.off < x.stop)) || (x.off == p.off && x.len == 0 && p.len == 0)
def sameP (l : List Pc) (p : Pc) : Bool := l.any fun x => decide (x = p)
def sharesP (l : List Pc) (p : Pc) : Bool := l.any fun x => sharing x p
/-- Where the last part ends; none: -1. -/
def endP : List Pc → Int
  | [] => -1
  | x :: l => if x.more then endP l else x.stop
def farP : List Pc → Int
  | [] => 0
  | x :: l => max x.stop (farP l)
def bytesP : List Pc → Int
  | [] => 0
  | x :: l => x.len + bytesP l
def badP (p : Pc) : Prop := p.off < 0 ∨ (p.more = true ∧ (p.len = 0 ∨ p.len % 8 ≠ 0))
instance (p : Pc) : Decidable (badP p) := by unfold badP; exact inferInstance
def lateP (l : List Pc) (p : Pc) : Prop := (p.more = false ∧ (0 ≤ endP l ∨ farP l > p.stop)) ∨ (0 ≤ endP l ∧ p.stop > endP l)
instance (l : List Pc) (p : Pc) : Decidable (lateP l p) := by unfold lateP; exact inferInstance
def addE (l : List Pc) (p : Pc) : Int :=
  if badP p then 4 else if p.off > 65535 - p.len then 6 else if sameP l p then 0 else if sharesP l p then 9 else if lateP l p then 4 else 0
def addL (l : List Pc) (p : Pc) : List Pc := if addE l p = 0 then (if sameP l p then l else l ++ [p]) else l
def roomP (l : List Pc) (off : Int) (b : List UInt8) : Int := if sameP l ⟨off, true, b⟩ || sameP l ⟨off, false, b⟩ then 0 else (b.length : Int)
/-- Bytes laid over others from a place on. -/
def layB (out : List UInt8) (k : Nat) (b : List UInt8) : List UInt8 := out.take k ++ b ++ out.drop (k + b.length)
def fillP : List Pc → List UInt8 → List UInt8
  | [], out => out
  | x :: l, out => fillP l (layB out x.off.toNat x.b)
def doneB (l : List Pc) : Bool := decide (0 ≤ endP l) && decide (bytesP l = endP l)
def doneP (l : List Pc) : List UInt8 := if doneB l then fillP l (List.replicate (endP l).toNat 0) else []
def coverP (l : List Pc) (k : Int) : Bool := l.any fun x => decide (x.off ≤ k) && decide (k < x.stop)
def upP (l : List Pc) : Int := if endP l < 0 then farP l else endP l
/-- The spans that no part has, up to a place; two numbers each. -/
def gapStep (out : List Nat) (k : Nat) : List Nat := if out.getLast? = some k then out.dropLast ++ [k + 1] else out ++ [k, k + 1]
def gapsN (l : List Pc) : Nat → List Nat
  | 0 => []
  | k + 1 => if coverP l k then gapsN l k else gapStep (gapsN l k) k
def gapsP (l : List Pc) : List Nat := gapsN l (upP l).toNat
theorem gapStep_length (out : List Nat) (k : Nat) : (gapStep out k).length ≤ out.length + 2 := by
  unfold gapStep; split <;> simp <;> omega
theorem gapsN_length (l : List Pc) : ∀ k, (gapsN l k).length ≤ 2 * k
  | 0 => Nat.le_refl _
  | k + 1 => by
    have h := gapsN_length l k
    have h2 := gapStep_length (gapsN l k) k
    rw [gapsN]; split <;> omega

theorem layB_length {out : List UInt8} {k : Nat} {b : List UInt8} (h : k + b.length ≤ out.length) : (layB out k b).length = out.length := by
  simp only [layB, List.length_append, List.length_take, List.length_drop]; omega
theorem layB_get {out : List UInt8} {k : Nat} {b : List UInt8} (h : k + b.length ≤ out.length) (j : Nat) :
    (layB out k b)[j]? = if k ≤ j ∧ j < k + b.length then b[j - k]? else out[j]? := by
  unfold layB
  by_cases h1 : j < k
  · rw [if_neg (by omega), List.append_assoc, List.getElem?_append_left (by simp; omega), List.getElem?_take, if_pos h1]
  · by_cases h2 : j < k + b.length
    · rw [if_pos ⟨by omega, h2⟩, List.append_assoc, List.getElem?_append_right (by simp; omega), List.length_take, Nat.min_eq_left (by omega), List.getElem?_append_left (by omega)]
    · rw [if_neg (by omega), List.getElem?_append_right (by simp; omega), List.getElem?_drop]
      congr 1
      simp only [List.length_append, List.length_take]; omega
/-! ### A text, cut -/
/-- Each part is a piece of the text, where it stands. -/
def PieceOf (b : List UInt8) (x : Pc) : Prop := 0 ≤ x.off ∧ x.stop ≤ (b.length : Int) ∧ x.b = (b.drop x.off.toNat).take x.b.length
theorem fill_get (b : List UInt8) (j : Nat) : ∀ (l : List Pc) (out : List UInt8), out.length = b.length → (∀ x ∈ l, PieceOf b x) → (out[j]? = b[j]? ∨ ∃ x ∈ l, x.off ≤ (j : Int) ∧ (j : Int) < x.stop) →
    (fillP l out)[j]? = b[j]? ∧ (fillP l out).length = b.length
  | [], out, hl, _, h => by
    rcases h with h | ⟨x, hx, _⟩
    · exact ⟨h, hl⟩
    · cases hx
  | x :: l, out, hl, hp, h => by
    obtain ⟨p1, p2, p3⟩ := hp x (List.mem_cons_self ..)
    have hs : x.stop = x.off + (x.b.length : Int) := rfl
    have hfit : x.off.toNat + x.b.length ≤ out.length := by omega
    refine fill_get b j l (layB out x.off.toNat x.b) (by rw [layB_length hfit]; exact hl) (fun y hy => hp y (List.mem_cons_of_mem _ hy)) ?_
    have hcov : x.off ≤ (j : Int) ∧ (j : Int) < x.stop → (layB out x.off.toNat x.b)[j]? = b[j]? := fun ⟨h1, h2⟩ => by
      rw [layB_get hfit, if_pos ⟨by omega, by omega⟩, p3, List.getElem?_take, List.getElem?_drop]
      rw [if_pos (by omega)]
      congr 1; omega
    rcases h with h | ⟨y, hy, hc⟩
    · left
      by_cases hc : x.off ≤ (j : Int) ∧ (j : Int) < x.stop
      · exact hcov hc
      · rw [layB_get hfit, if_neg (by omega)]; exact h
    · rcases List.mem_cons.1 hy with rfl | hy
      · exact .inl (hcov hc)
      · exact .inr ⟨y, hy, hc⟩
/-- Parts that stand one behind the other from a place on, and are the text; the last one alone is no more. -/
inductive Chain (b : List UInt8) : Nat → List Pc → Prop
  | last {k : Nat} (h : k ≤ b.length) (he : k = b.length → k = 0) : Chain b k [⟨(k : Int), false, b.drop k⟩]
  | more {k n : Nat} {l : List Pc} (hn : 0 < n) (h8 : n % 8 = 0) (hk : k + n < b.length) (h : Chain b (k + n) l) : Chain b k (⟨(k : Int), true, (b.drop k).take n⟩ :: l)
theorem Chain.facts {b : List UInt8} : ∀ {k : Nat} {l : List Pc}, Chain b k l →
    (∀ x ∈ l, PieceOf b x ∧ (k : Int) ≤ x.off ∧ ¬ badP x ∧ (x.more = true → x.stop < (b.length : Int)) ∧ (x.more = false → x.stop = (b.length : Int)) ∧ (0 < b.length → 0 < x.len)) ∧
    bytesP l = (b.length : Int) - (k : Int) ∧ endP l = (b.length : Int) ∧ (∀ j : Nat, k ≤ j → j < b.length → ∃ x ∈ l, x.off ≤ (j : Int) ∧ (j : Int) < x.stop) ∧
    l.Pairwise (fun x y => x.stop ≤ y.off ∧ x.more = true ∧ x.off < y.off) := by
  intro k l h
  induction h with
  | @last k h he =>
    have hl : (b.drop k).length = b.length - k := List.length_drop
    have hs : (Pc.mk (k : Int) false (b.drop k)).stop = (b.length : Int) := by simp only [Pc.stop, Pc.len, hl]; omega
    have hle : (Pc.mk (k : Int) false (b.drop k)).len = (b.length : Int) - (k : Int) := by simp only [Pc.len, hl]; omega
    refine ⟨fun x hx => ?_, ?_, ?_, fun j h1 h2 => ⟨_, List.mem_cons_self .., ?_, ?_⟩, List.pairwise_singleton _ _⟩
    · rw [List.mem_singleton.1 hx]
      refine ⟨⟨Int.natCast_nonneg k, by rw [hs]; exact Int.le_refl _, ?_⟩, Int.le_refl _, ?_, fun e => (by cases e), fun _ => hs, fun h0 => by rw [hle]; omega⟩
      · show b.drop k = (b.drop k).take (b.drop k).length
        rw [List.take_length]
      · rintro (h1 | ⟨h1, _⟩)
        · have : (k : Int) < 0 := h1
          omega
        · cases h1
    · show _ + 0 = _
      rw [hle]; omega
    · show (if false = true then _ else _) = _
      rw [if_neg (by decide)]; exact hs
    · show (k : Int) ≤ j; omega
    · rw [hs]; omega
  | @more k n l hn h8 hk _ ih =>
    obtain ⟨i1, i2, i3, i4, i5⟩ := ih
    have hl : ((b.drop k).take n).length = n := by rw [List.length_take, List.length_drop]; omega
    have hs : (Pc.mk (k : Int) true ((b.drop k).take n)).stop = ((k + n : Nat) : Int) := by simp only [Pc.stop, Pc.len, hl]; omega
    have hle : (Pc.mk (k : Int) true ((b.drop k).take n)).len = (n : Int) := by simp only [Pc.len, hl]
    refine ⟨fun x hx => ?_, ?_, ?_, fun j h1 h2 => ?_, ?_⟩
    · rcases List.mem_cons.1 hx with rfl | hx
      · refine ⟨⟨Int.natCast_nonneg k, by rw [hs]; omega, ?_⟩, Int.le_refl _, ?_, fun _ => by rw [hs]; omega, fun e => (by cases e), fun _ => by rw [hle]; omega⟩
        · show (b.drop k).take n = (b.drop k).take ((b.drop k).take n).length
          rw [hl]
        · rintro (h1 | ⟨_, h1⟩)
          · have : (k : Int) < 0 := h1
            omega
          · rw [hle] at h1; omega
      · obtain ⟨a1, a2, a3, a4, a5, a6⟩ := i1 x hx
        exact ⟨a1, by omega, a3, a4, a5, a6⟩
    · show _ + bytesP l = _
      rw [hle, i2]; omega
    · show (if true = true then _ else _) = _
      rw [if_pos rfl]; exact i3
    · by_cases hj : j < k + n
      · exact ⟨_, List.mem_cons_self .., by show (k : Int) ≤ j; omega, by rw [hs]; omega⟩
      · obtain ⟨x, hx, hc⟩ := i4 j (by omega) h2
        exact ⟨x, List.mem_cons_of_mem _ hx, hc⟩
    · refine List.pairwise_cons.2 ⟨fun y hy => ?_, i5⟩
      obtain ⟨_, a2, _⟩ := i1 y hy
      exact ⟨by rw [hs]; exact a2, rfl, by show (k : Int) < y.off; omega⟩
theorem endP_cases : ∀ s : List Pc, endP s = -1 ∨ ∃ y ∈ s, y.more = false ∧ endP s = y.stop
  | [] => .inl rfl
  | x :: s => by
    cases hm : x.more with
    | false => exact .inr ⟨x, List.mem_cons_self .., hm, by rw [endP, hm]; rfl⟩
    | true =>
      have e : endP (x :: s) = endP s := by rw [endP, hm]; rfl
      rcases endP_cases s with h | ⟨y, hy, h1, h2⟩
      · exact .inl (e.trans h)
      · exact .inr ⟨y, List.mem_cons_of_mem _ hy, h1, e.trans h2⟩
theorem farP_le {n : Int} : ∀ s : List Pc, 0 ≤ n → (∀ x ∈ s, x.stop ≤ n) → farP s ≤ n
  | [], h, _ => h
  | x :: s, h, hs => by
    have h1 := farP_le s h (fun y hy => hs y (List.mem_cons_of_mem _ hy))
    have h2 := hs x (List.mem_cons_self ..)
    rw [farP]; omega
theorem sameP_iff {s : List Pc} {p : Pc} : sameP s p = true ↔ p ∈ s := by simp [sameP]
theorem bytesP_perm {s l : List Pc} (h : List.Perm s l) : bytesP s = bytesP l := by
  induction h with
  | nil => rfl
  | cons x _ ih => rw [bytesP, bytesP, ih]
  | swap x y l => simp only [bytesP]; omega
  | trans _ _ h1 h2 => exact h1.trans h2
theorem pair_of {R : Pc → Pc → Prop} : ∀ {l : List Pc}, l.Pairwise R → ∀ {x y : Pc}, x ∈ l → y ∈ l → x ≠ y → R x y ∨ R y x
  | [], _, _, _, h, _, _ => by cases h
  | a :: l, h, x, y, hx, hy, hne => by
    obtain ⟨h1, h2⟩ := List.pairwise_cons.1 h
    rcases List.mem_cons.1 hx with e1 | hx1
    · rcases List.mem_cons.1 hy with e2 | hy1
      · exact absurd (e1.trans e2.symm) hne
      · rw [e1]; exact .inl (h1 y hy1)
    · rcases List.mem_cons.1 hy with e2 | hy1
      · rw [e2]; exact .inr (h1 x hx1)
      · exact pair_of h2 hx1 hy1 hne
/-- A part of a text that is cut is taken, in whatever order; a second time nothing changes. -/
theorem order_add {b : List UInt8} {l s : List Pc} {p : Pc} (h : Chain b 0 l) (hb : b.length ≤ 65535) (hs : ∀ x ∈ s, x ∈ l) (hp : p ∈ l) :
    addE s p = 0 ∧ addL s p = if p ∈ s then s else s ++ [p] := by
  obtain ⟨f1, _, _, _, f5⟩ := h.facts
  obtain ⟨⟨p1, p2, _⟩, p3, p4, p5, p6, p7⟩ := f1 p hp
  have hst : p.stop = p.off + p.len := rfl
  by_cases hm : p ∈ s
  · have he : addE s p = 0 := by rw [addE, if_neg p4, if_neg (by omega), if_pos (sameP_iff.2 hm)]
    exact ⟨he, by rw [addL, if_pos he, if_pos (sameP_iff.2 hm), if_pos hm]⟩
  · have hns : ¬ sameP s p = true := fun e => hm (sameP_iff.1 e)
    have hsh : ¬ sharesP s p = true := fun e => by
      obtain ⟨x, hx, hxp⟩ := List.any_eq_true.1 e
      have hxs : x.stop = x.off + x.len := rfl
      have hne : x ≠ p := fun e => hm (e ▸ hx)
      simp only [sharing, Bool.or_eq_true, Bool.and_eq_true, decide_eq_true_eq, beq_iff_eq] at hxp
      rcases pair_of f5 (hs x hx) hp hne with ⟨r1, _, r3⟩ | ⟨r1, _, r3⟩ <;> omega
    have hlt : ¬ lateP s p := by
      have hle : ∀ y ∈ s, y.stop ≤ (b.length : Int) := fun y hy => (f1 y (hs y hy)).1.2.1
      have hend : endP s = -1 ∨ endP s = (b.length : Int) := by
        rcases endP_cases s with h0 | ⟨y, hy, h1, h2⟩
        · exact .inl h0
        · exact .inr (h2.trans ((f1 y (hs y hy)).2.2.2.2.1 h1))
      rintro (⟨h1, h2 | h2⟩ | ⟨h1, h2⟩)
      · rcases endP_cases s with h0 | ⟨y, hy, g1, g2⟩
        · omega
        · have hne : y ≠ p := fun e => hm (e ▸ hy)
          rcases pair_of f5 (hs y hy) hp hne with ⟨_, r2, _⟩ | ⟨_, r2, _⟩
          · rw [g1] at r2; cases r2
          · rw [h1] at r2; cases r2
      · have := farP_le s (by omega) hle
        have := p6 h1
        omega
      · rcases hend with e | e <;> omega
    have he : addE s p = 0 := by rw [addE, if_neg p4, if_neg (by omega), if_neg hns, if_neg hsh, if_neg hlt]
    exact ⟨he, by rw [addL, if_pos he, if_neg hns, if_neg hm]⟩
/-- All parts together are the text. -/
theorem order_done {b : List UInt8} {l s : List Pc} (h : Chain b 0 l) (hs : List.Perm s l) : doneB s = true ∧ doneP s = b := by
  obtain ⟨f1, f2, f3, f4, f5⟩ := h.facts
  have hmem : ∀ x, x ∈ s ↔ x ∈ l := fun x => hs.mem_iff
  have hend : endP s = (b.length : Int) := by
    rcases endP_cases s with h0 | ⟨y, hy, h1, h2⟩
    · exfalso
      rcases endP_cases l with g0 | ⟨z, hz, g1, g2⟩
      · omega
      · have key : ∀ (q : List Pc), (∀ x ∈ q, x ∈ l) → z ∈ q → endP q ≠ -1 := fun q => by
          induction q with
          | nil => intro _ h; cases h
          | cons a q ih =>
            intro ha hq
            rw [endP]
            split
            · rcases List.mem_cons.1 hq with e | hq
              · rename_i hb; rw [← e, g1] at hb; cases hb
              · exact ih (fun x hx => ha x (List.mem_cons_of_mem _ hx)) hq
            · rename_i hb
              have h9 := (f1 a (ha a (List.mem_cons_self ..))).2.2.2.2.1 (by simpa using hb)
              rw [h9]; omega
        exact key s (fun x hx => (hmem x).1 hx) ((hmem z).2 hz) h0
    · exact h2.trans ((f1 y ((hmem y).1 hy)).2.2.2.2.1 h1)
  have hby : bytesP s = (b.length : Int) := by rw [bytesP_perm hs, f2]; simp
  have hd : doneB s = true := by simp only [doneB, Bool.and_eq_true, decide_eq_true_eq]; omega
  refine ⟨hd, ?_⟩
  rw [doneP, if_pos hd, hend]
  refine List.ext_getElem? fun j => ?_
  have hfill := fun (j : Nat) (hj : j < b.length) => fill_get b j s (List.replicate (b.length : Int).toNat 0) (by simp) (fun x hx => (f1 x ((hmem x).1 hx)).1) (.inr (by
    obtain ⟨x, hx, hc⟩ := f4 j (Nat.zero_le _) hj
    exact ⟨x, (hmem x).2 hx, hc⟩))
  by_cases hj : j < b.length
  · exact (hfill j hj).1
  · rcases Nat.eq_zero_or_pos b.length with h0 | h0
    · obtain rfl : b = [] := List.eq_nil_of_length_eq_zero h0
      have := fill_get [] j s (List.replicate (([] : List UInt8).length : Int).toNat 0) (by simp) (fun x hx => (f1 x ((hmem x).1 hx)).1) (.inl (by simp))
      exact this.1
    · have := (hfill 0 h0).2
      rw [List.getElem?_eq_none (by omega), List.getElem?_eq_none (by omega)]
/-- Parts of which none ends behind the last one. -/
def wfP (L : List Pc) : Prop := 0 ≤ endP L → ∀ x ∈ L, x.stop ≤ endP L
theorem le_farP : ∀ {l : List Pc} {x : Pc}, x ∈ l → x.stop ≤ farP l
  | a :: l, x, h => by
    rw [farP]
    rcases List.mem_cons.1 h with rfl | h
    · omega
    · have := le_farP h; omega
theorem endP_app_more {m : List Pc} : ∀ {l : List Pc}, (∀ x ∈ l, x.more = true) → endP (l ++ m) = endP m
  | [], _ => rfl
  | a :: l, h => by
    rw [List.cons_append, endP, if_pos (h a (List.mem_cons_self ..))]
    exact endP_app_more fun x hx => h x (List.mem_cons_of_mem _ hx)
theorem endP_app_last {m : List Pc} : ∀ {l : List Pc}, (∃ x ∈ l, x.more = false) → endP (l ++ m) = endP l
  | [], ⟨_, h, _⟩ => by cases h
  | a :: l, ⟨x, hx, hm⟩ => by
    rw [List.cons_append, endP, endP]
    cases ha : a.more with
    | false => rfl
    | true =>
      rw [if_pos rfl, if_pos rfl]
      rcases List.mem_cons.1 hx with rfl | hx
      · rw [hm] at ha; cases ha
      · exact endP_app_last ⟨x, hx, hm⟩
theorem endP_last : ∀ {l : List Pc}, (∃ x ∈ l, x.more = false) → ∃ y ∈ l, y.more = false ∧ endP l = y.stop
  | [], ⟨_, h, _⟩ => by cases h
  | a :: l, ⟨x, hx, hm⟩ => by
    cases ha : a.more with
    | false => exact ⟨a, List.mem_cons_self .., ha, by rw [endP, ha]; rfl⟩
    | true =>
      have h1 : ∃ x ∈ l, x.more = false := by
        rcases List.mem_cons.1 hx with rfl | hx
        · rw [hm] at ha; cases ha
        · exact ⟨x, hx, hm⟩
      obtain ⟨y, hy, h2, h3⟩ := endP_last h1
      exact ⟨y, List.mem_cons_of_mem _ hy, h2, by rw [endP, ha, if_pos rfl, h3]⟩
theorem addL_cases (l : List Pc) (p : Pc) : addL l p = l ∨ (addL l p = l ++ [p] ∧ addE l p = 0 ∧ ¬ badP p ∧ ¬ p.off > 65535 - p.len ∧ ¬ sharesP l p = true ∧ ¬ lateP l p) := by
  by_cases he : addE l p = 0
  · by_cases hs : sameP l p = true
    · exact .inl (by rw [addL, if_pos he, if_pos hs])
    · right
      refine ⟨by rw [addL, if_pos he, if_neg hs], he, ?_⟩
      unfold addE at he
      by_cases h1 : badP p
      · rw [if_pos h1] at he; omega
      · rw [if_neg h1] at he
        by_cases h2 : p.off > 65535 - p.len
        · rw [if_pos h2] at he; omega
        · rw [if_neg h2, if_neg hs] at he
          by_cases h3 : sharesP l p = true
          · rw [if_pos h3] at he; omega
          · rw [if_neg h3] at he
            by_cases h4 : lateP l p
            · rw [if_pos h4] at he; omega
            · exact ⟨h1, h2, h3, h4⟩
  · exact .inl (by rw [addL, if_neg he])
/-- What Add keeps ends where the last part ends, still. -/
theorem addL_wf {l : List Pc} {p : Pc} (h : wfP l) : wfP (addL l p) := by
  rcases addL_cases l p with e | ⟨e, _, hb, _, _, hl⟩
  · rw [e]; exact h
  · rw [e]
    by_cases hm : ∃ x ∈ l, x.more = false
    · intro hend x hx
      rw [endP_app_last hm] at hend ⊢
      rcases List.mem_append.1 hx with hx | hx
      · exact h hend x hx
      · rw [List.mem_singleton.1 hx]
        have : ¬ (p.stop > endP l) := fun h1 => hl (.inr ⟨hend, h1⟩)
        omega
    · have hall : ∀ x ∈ l, x.more = true := fun x hx => by
        cases hc : x.more with
        | true => rfl
        | false => exact absurd ⟨x, hx, hc⟩ hm
      intro hend x hx
      rw [endP_app_more hall] at hend ⊢
      cases hp : p.more with
      | true =>
        have : endP [p] = -1 := by rw [endP, hp]; rfl
        omega
      | false =>
        have h1 : endP [p] = p.stop := by rw [endP, hp]; rfl
        rw [h1]
        rcases List.mem_append.1 hx with hx | hx
        · have h2 := le_farP hx
          have : ¬ (farP l > p.stop) := fun h3 => hl (.inl ⟨hp, .inr h3⟩)
          omega
        · rw [List.mem_singleton.1 hx]; omega
/-- What Add keeps lies within a packet, still. -/
theorem addL_in {l : List Pc} {p : Pc} (h0 : ∀ x ∈ l, 0 ≤ x.off ∧ x.stop ≤ 65535) : ∀ x ∈ addL l p, 0 ≤ x.off ∧ x.stop ≤ 65535 := by
  rcases addL_cases l p with e | ⟨e, _, hb, hf, _, _⟩
  · rw [e]; exact h0
  · rw [e]
    intro x hx
    rcases List.mem_append.1 hx with hx | hx
    · exact h0 x hx
    · rw [List.mem_singleton.1 hx]
      have h1 : ¬ p.off < 0 := fun h => hb (.inl h)
      have h2 : p.stop = p.off + p.len := rfl
      omega
theorem wfP_nil : wfP [] := fun _ x hx => by cases hx
end Go.Proofs.Ythdaclbgandmcaa
