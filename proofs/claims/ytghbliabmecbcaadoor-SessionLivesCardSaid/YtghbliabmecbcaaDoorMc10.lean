/-
  Contracts and lemmas on which the proofs of this seat stand (several texts in one). Conditions are each theorem's own.
-/
import Derived.Test.YtghbliabmecbcaaDoorMc1
import Derived.Test.YtghbliabmecbcaaDoorChecked
import Derived.Lib.Hide
import Derived.Test.YtghbliabmecbcaaDoorMc6
import Derived.Test.YtghbliabmecbcaaDoorMc9
import Derived.Shelf.Strconv.Itoa0
import Derived.Shelf.Strconv.Itoa1
import Derived.Shelf.LaysM
import Derived.Shelf.Strconv.Itoa2
import Derived.Shelf.Strconv.AppendUint10
import Derived.Shelf.Strconv.AppendInt10
import Derived.Shelf.Strconv.AppendIntPublic10
import Derived.Shelf.Slices.Reverse
import Derived.Ground.Names2Prog
import Derived.Shelf.Slices.SearchI
import Derived.Shelf.Slices.Delete
import Derived.Shelf.Slices.Cells
import Derived.Shelf.Slices.Empties
import Derived.Test.YtghbliabmecbcaaDoorProg

/-
  slices.BinarySearch over rising integers. Conditions are each theorem's own.
-/
namespace Go.Proofs.YtghbliabmecbcaaDoor
open Go.RowKit
theorem cisnan (n : Int) (w : World) : Calls Tryd.prog 65 #[.int .i64 n] w fun e w' => e = .returned (.bool false) ∧ w = w' := by
  have h : (n != n) = false := by simp
  go_enter Tryd.func65, Tryd.ntmps65
  go_wp2
  go_ret
  exact ⟨rfl, rfl⟩
theorem sisnan (n : Int) (w : World) : Calls Tryd.prog 59 #[.int .i64 n] w fun e w' => e = .returned (.bool false) ∧ w = w' := by
  have h : (n != n) = false := by simp
  go_enter Tryd.func59, Tryd.ntmps59
  go_wp2
  go_ret
  exact ⟨rfl, rfl⟩
theorem cless (a b : Int) (w : World) : Calls Tryd.prog 58 #[.int .i64 a, .int .i64 b] w fun e w' => e = .returned (.bool (decide (a < b))) ∧ w = w' := by
  cases h : decide (a < b)
  all_goals
    go_enter Tryd.func58, Tryd.ntmps58
    go_wp2_with (go_at_call 65; refine (cisnan _ _).mono ?_; rintro e w1 ⟨rfl, rfl⟩)
    go_ret
    exact ⟨rfl, rfl⟩
/-- Where x is, or would be, among rising numbers. -/
structure AtI (zs : List Int) (x : Int) (k : Nat) : Prop where
  le : k ≤ zs.length
  lo : ∀ y ∈ zs.take k, y < x
  hi : ∀ y ∈ zs.drop k, x ≤ y
theorem srt_get {zs : List Int} (h : zs.Pairwise (· < ·)) {i j : Nat} {a b : Int} (hij : i ≤ j) (hi : zs[i]? = some a) (hj : zs[j]? = some b) : a ≤ b := by
  rcases Nat.lt_or_eq_of_le hij with h1 | h1
  · obtain ⟨l1, e1⟩ := List.getElem?_eq_some_iff.1 hi
    obtain ⟨l2, e2⟩ := List.getElem?_eq_some_iff.1 hj
    have := List.pairwise_iff_getElem.1 h i j l1 l2 h1
    rw [e1, e2] at this; omega
  · subst h1
    rw [hi] at hj
    have := Option.some.inj hj; omega
set_option maxRecDepth 100000 in
set_option maxHeartbeats 2000000 in
theorem csearch (A : Option Addr) (c n : Nat) (zs : List Int) (x : Int) (B : Nat) (w : World) (hR : RdI w B A zs) (hn : n = zs.length) (hn8 : n ≤ 1000000) (hs : zs.Pairwise (· < ·)) :
    Calls Tryd.prog 45 #[.slice A n c, .int .i64 x] w fun e w' => ∃ k : Nat, e = .returned (.tuple #[.int .i64 (k : Int), .bool (zs[k]? == some x)]) ∧ AtI zs x k ∧ w = w' := by
  have HN := Lib.hid hn
  have HRR := Lib.hid hR
  have HS := Lib.hid hs
  clear hn hR hs
  go_enter Tryd.func45, Tryd.ntmps45
  go_wp2
  go_loopw [7, 8] (fun s5 s6 wr => ∃ (lo hi : Nat), s5 = .int .i64 (lo : Int) ∧ s6 = .int .i64 (hi : Int) ∧ lo ≤ hi ∧ hi ≤ n ∧ Hid ((∀ y ∈ zs.take lo, y < x) ∧ (∀ y ∈ zs.drop hi, x ≤ y)) ∧ wr = w)
    (fun a b _ => (intOf b).toNat - (intOf a).toNat)
  case atStart => exact ⟨0, n, rfl, rfl, Nat.zero_le _, Nat.le_refl _, Lib.hid ⟨fun y hy => by simp at hy, fun y hy => by rw [List.drop_of_length_le (by rw [← HN.out]; exact Nat.le_refl _)] at hy; cases hy⟩, rfl⟩
  case round =>
    obtain ⟨lo, hi, rfl, rfl, hlh, hin, I, rfl⟩ := hrel
    by_cases hlt : lo < hi
    · obtain ⟨y, hy⟩ : ∃ y, zs[(lo + hi) / 2]? = some y := ⟨_, List.getElem?_eq_getElem (by rw [← HN.out]; omega)⟩
      obtain ⟨b9, o9, rfl, hb9, hall9⟩ := HRR.out (by rw [← HN.out]; omega)
      have kx0 : wr.cell? ⟨b9, o9 + (lo + hi) / 2, none⟩ = some (.int .i64 y) := by
        have h9 := hall9 ((lo + hi) / 2) (by rw [← HN.out]; omega)
        rw [List.getD_eq_getElem?_getD, hy, Option.getD_some] at h9
        exact h9
      obtain ⟨m, hm⟩ : ∃ m, m = (lo + hi) / 2 := ⟨_, rfl⟩
      have em : ((lo : Int) + (hi : Int)) / 2 = (m : Int) := by omega
      rw [← hm] at kx0 hy
      have hml : lo ≤ m := by omega
      have hmh : m < hi := by omega
      have HM := Lib.hid hm
      have HY := Lib.hid hy
      clear hm hy hall9
      cases hp : decide (y < x) with
      | true =>
        have HP := Lib.hid hp
        go_wp2_with (go_at_call 58; refine (cless _ _ _).mono ?_; rintro e w1 ⟨rfl, rfl⟩; rw [HP.out])
        go_roundw
        case rel =>
          refine ⟨m + 1, hi, by simp, rfl, by omega, hin, Lib.hid ⟨fun z hz => ?_, I.out.2⟩, trivial⟩
          obtain ⟨i, hi2⟩ := List.mem_iff_getElem?.1 hz
          rw [List.getElem?_take] at hi2
          split at hi2
          · have h1 := srt_get HS.out (by omega) hi2 HY.out
            have h2 : y < x := of_decide_eq_true HP.out
            omega
          · cases hi2
        case measure => simp [intOf]; omega
      | false =>
        have HP := Lib.hid hp
        go_wp2_with (go_at_call 58; refine (cless _ _ _).mono ?_; rintro e w1 ⟨rfl, rfl⟩; rw [HP.out])
        go_roundw
        case rel =>
          refine ⟨lo, m, rfl, by simp, by omega, by omega, Lib.hid ⟨I.out.1, fun z hz => ?_⟩, trivial⟩
          obtain ⟨i, hi2⟩ := List.mem_iff_getElem?.1 hz
          rw [List.getElem?_drop] at hi2
          have h1 := srt_get HS.out (by omega) HY.out hi2
          have h2 : ¬ y < x := of_decide_eq_false HP.out
          omega
        case measure => simp [intOf]; omega
    · obtain rfl : lo = hi := by omega
      by_cases hln : lo < n
      · obtain ⟨y, hy⟩ : ∃ y, zs[lo]? = some y := ⟨_, List.getElem?_eq_getElem (by rw [← HN.out]; omega)⟩
        obtain ⟨b9, o9, rfl, hb9, hall9⟩ := HRR.out (by rw [← HN.out]; omega)
        have kx0 : wr.cell? ⟨b9, o9 + lo, none⟩ = some (.int .i64 y) := by
          have h9 := hall9 lo (by rw [← HN.out]; omega)
          rw [List.getD_eq_getElem?_getD, hy, Option.getD_some] at h9
          exact h9
        have HY := Lib.hid hy
        clear hy hall9
        obtain ⟨q, hq⟩ : ∃ q, (y == x) = q := ⟨_, rfl⟩
        have HQ : Hid ((zs[lo]? == some x) = q) := Lib.hid (by rw [HY.out, ← hq]; rfl)
        cases q
        all_goals
          go_wp2_with (go_at_call 59; refine (sisnan _ _).mono ?_; rintro e w1 ⟨rfl, rfl⟩)
          exact bodyPost_ret (results_tmp2 rfl _ _ _) rfl ⟨lo, by rw [HQ.out]; rfl, ⟨by rw [← HN.out]; exact hin, I.out.1, I.out.2⟩, rfl⟩
      · have HQ : Hid ((zs[lo]? == some x) = false) := Lib.hid (by rw [List.getElem?_eq_none (by rw [← HN.out]; omega)]; rfl)
        go_wp2_with fail
        exact bodyPost_ret (results_tmp2 rfl _ _ _) rfl ⟨lo, by rw [HQ.out]; rfl, ⟨by rw [← HN.out]; exact hin, I.out.1, I.out.2⟩, rfl⟩
end Go.Proofs.YtghbliabmecbcaaDoor

/-
  What layer 24's code keeps in memory: slots, the table of texts, the map of each binding's numbers; what a change leaves alone. Conditions are each theorem's own.
-/
namespace Go.Proofs.YtghbliabmecbcaaDoor
open Go.RowKit Go.Shelf Go.Maps
def clSe (x : Sd) : List Value := [.int .i64 x.b, .int .i64 x.t, .int .i64 x.u, .int .i64 x.a, .int .i64 x.p]
def seV (x : Sd) : Value := .agg (clSe x).toArray
def reV (x : Sd) : Value := .agg #[.int .i64 x.a, .int .i64 x.p]
theorem clSe_one (x : Sd) : (clSe x).toArray.all (·.oneCell') = true := by simp [clSe, Value.oneCell']
/-- A slot's cells. -/
def clSl : Option Sd → List Value
  | none => [.int .i64 0, .int .i64 0, .int .i64 0, .int .i64 0, .int .i64 0, .bool false]
  | some x => clSe x ++ [.bool true]
theorem clSl_len (o : Option Sd) : (clSl o).length = 6 := by cases o <;> rfl
theorem clSl_one (o : Option Sd) : (clSl o).toArray.all (·.oneCell') = true := by cases o <;> simp [clSl, clSe, Value.oneCell']
theorem clSl_own (o : Option Sd) : ∀ u ∈ clSl o, u.oneCell' = true := fun u hu => by
  have h := clSl_one o
  rw [Array.all_eq_true_iff_forall_mem] at h
  exact h u (by simpa using hu)
/-! ### What is written -/
/-- What is written of the old blocks is cells of these types. -/
def Only (w : World) (S : Nat → Prop) (T : TypeId → Prop) : Prop := ∀ k, S k → (∃ cs ty, w.heap[k]? = some (.cells cs ty (0, 0)) ∧ T ty) ∨ w.heap.size ≤ k
section
variable {w w' w2 : World} {S S2 : Nat → Prop} {T : TypeId → Prop} {B0 : Nat}
theorem Only.cells (h : Only w S T) {i : Nat} {cs : Array Value} {ty : TypeId} {fr : Nat × Nat} (hi : w.heap[i]? = some (.cells cs ty fr)) (hT : ¬ T ty) : ¬ S i := fun hs => by
  rcases h i hs with ⟨cs', ty', h1, h2⟩ | h1
  · rw [hi] at h1
    injection h1 with h1
    injection h1 with _ e2 _
    exact hT (e2 ▸ h2)
  · have := heap_lt hi; omega
theorem Only.map (h : Only w S T) {i clock : Nat} {es : Array MapEntry} (hi : w.heap[i]? = some (.map es clock)) : ¬ S i := fun hs => by
  rcases h i hs with ⟨cs', ty', h1, h2⟩ | h1
  · rw [hi] at h1; cases h1
  · have : i < w.heap.size := by
      rcases Nat.lt_or_ge i w.heap.size with h | h
      · exact h
      · rw [Array.getElem?_eq_none h] at hi; cases hi
    omega
theorem own_only {b e s n : Nat} {v : Value} {xs : List Value} (h : w.ownsRow b e s v n xs) (k : Kept S w w') (ho : Only w S T) (hT : ¬ T e) : w'.ownsRow b e s v n xs :=
  own_keptT h k (fun _ hs _ _ hg => ho.cells hg hT hs)
theorem Only.one {g : Nat} {cs : Array Value} {ty : TypeId} (hg : w.heap[g]? = some (.cells cs ty (0, 0))) : Only w (fun k => k = g) (fun u => u = ty) := fun k hk => .inl ⟨cs, ty, by rw [show k = g from hk]; exact hg, rfl⟩
theorem Only.none_ : Only w (fun _ => False) T := fun _ h => h.elim
end
theorem heap_ty {w : World} {g g' : Nat} {cs cs' : Array Value} {ty ty' : TypeId} {fr fr' : Nat × Nat} (h : w.heap[g]? = some (.cells cs ty fr)) (h' : w.heap[g']? = some (.cells cs' ty' fr')) (hne : ty ≠ ty') : g ≠ g' := fun e => by
  subst e
  rw [h] at h'
  injection h' with h'
  injection h' with _ e2 _
  exact hne e2
/-! ### Cells of one element set in a row -/
def splL : List Value → Nat → List Value → List Value
  | l, _, [] => l
  | l, o, v :: vs => splL (l.set o v) (o + 1) vs
theorem splL_len : ∀ (vs l : List Value) (o : Nat), (splL l o vs).length = l.length
  | [], _, _ => rfl
  | v :: vs, l, o => by rw [splL, splL_len vs]; simp
theorem splL_get : ∀ (vs l : List Value) (o j : Nat), o + vs.length ≤ l.length → (splL l o vs)[j]? = if o ≤ j ∧ j < o + vs.length then vs[j - o]? else l[j]?
  | [], l, o, j, _ => by rw [splL, if_neg (by simp)]
  | v :: vs, l, o, j, h => by
    rw [List.length_cons] at h
    rw [splL, splL_get vs (l.set o v) (o + 1) j (by rw [List.length_set]; omega), List.length_cons]
    by_cases h1 : o + 1 ≤ j ∧ j < o + 1 + vs.length
    · rw [if_pos h1, if_pos (by omega), show j - o = (j - (o + 1)) + 1 from by omega, List.getElem?_cons_succ]
    · rw [if_neg h1]
      by_cases h2 : j = o
      · subst h2
        rw [if_pos (by omega), Nat.sub_self, List.getElem?_cons_zero, List.getElem?_set, if_pos rfl, if_pos (by omega)]
      · rw [if_neg (by omega), List.getElem?_set, if_neg (by omega)]
theorem splL_take : ∀ (vs l : List Value) (o m : Nat), (splL l o vs).take m = splL (l.take m) o vs
  | [], _, _, _ => rfl
  | v :: vs, l, o, m => by rw [splL, splL, splL_take vs, List.take_set]
theorem heap_setCellsL {T : TypeId} (b : Nat) : ∀ (vs : List Value) (o : Nat) (w : World) (cur : Array Value), w.heap[b]? = some (.cells cur T (0, 0)) → (w.setCells b o vs).heap[b]? = some (.cells (splL cur.toList o vs).toArray T (0, 0))
  | [], _, _, cur, h => by rw [splL, Array.toArray_toList]; exact h
  | v :: vs, o, w, cur, h => by
    have h1 := heap_setCellsL b vs (o + 1) (w.setCell ⟨b, o, none⟩ v) _ (heap_setCell_same w b o cur T v h)
    rw [splL]
    rw [Array.toList_setIfInBounds] at h1
    exact h1
section
variable {α : Type} {cl : α → List Value} {sz : Nat}
theorem flat_set (hl : ∀ x, (cl x).length = sz) (hz : 0 < sz) (S : List α) (i : Nat) (x : α) (hi : i < S.length) : splL (S.flatMap cl) (i * sz) (cl x) = (S.set i x).flatMap cl := by
  have e1 := flat_len (cl := cl) S (fun y _ => hl y)
  have e2 := flat_len (cl := cl) (S.set i x) (fun y _ => hl y)
  rw [List.length_set] at e2
  have hle : i * sz + sz ≤ S.length * sz := by
    have := Nat.mul_le_mul_right sz (show i + 1 ≤ S.length from hi)
    rwa [Nat.add_mul, Nat.one_mul] at this
  apply List.ext_getElem?
  intro j
  rw [splL_get _ _ _ _ (by rw [hl, e1]; exact hle), hl]
  by_cases hj : j < S.length * sz
  · have ha : j / sz < S.length := (Nat.div_lt_iff_lt_mul hz).2 hj
    have hr : j % sz < sz := Nat.mod_lt _ hz
    have hjj : j / sz * sz + j % sz = j := by rw [Nat.mul_comm]; exact Nat.div_add_mod j sz
    obtain ⟨y, hy⟩ : ∃ y, (S.set i x)[j / sz]? = some y := ⟨_, List.getElem?_eq_getElem (by rw [List.length_set]; exact ha)⟩
    have g1 := flat_at (cl := cl) (sz := sz) (S.set i x) (fun z _ => hl z) (j / sz) y hy (j % sz) _ (List.getElem?_eq_getElem (by rw [hl]; exact hr))
    rw [hjj] at g1
    rw [g1]
    rw [List.getElem?_set] at hy
    by_cases hi2 : i = j / sz
    · rw [if_pos hi2, if_pos (by omega)] at hy
      obtain rfl := Option.some.inj hy
      rw [hi2, if_pos (by omega), show j - j / sz * sz = j % sz from by omega]
      exact List.getElem?_eq_getElem _
    · rw [if_neg hi2] at hy
      have g2 := flat_at (cl := cl) (sz := sz) S (fun z _ => hl z) (j / sz) y hy (j % sz) _ (List.getElem?_eq_getElem (by rw [hl]; exact hr))
      rw [hjj] at g2
      rw [if_neg ?_, g2]
      rintro ⟨h1, h2⟩
      apply hi2
      have h3 : i * sz ≤ j := h1
      have h4 : j < (i + 1) * sz := by rw [Nat.add_mul, Nat.one_mul]; exact h2
      have h5 : i ≤ j / sz := (Nat.le_div_iff_mul_le hz).2 h3
      have h6 : j / sz < i + 1 := (Nat.div_lt_iff_lt_mul hz).2 h4
      omega
  · rw [if_neg (by omega), List.getElem?_eq_none (by rw [e1]; omega), List.getElem?_eq_none (by rw [e2]; omega)]
theorem own_setS {w : World} {base e g n c : Nat} {S : List α} (hl : ∀ x, (cl x).length = sz) (hz : 0 < sz) (h : w.ownsRow base e sz (.slice (some ⟨g, 0, none⟩) n c) n (S.flatMap cl)) (hn : n = S.length) {i : Nat} (hi : i < S.length) (x : α) :
    (w.setCells g (i * sz) (cl x)).ownsRow base e sz (.slice (some ⟨g, 0, none⟩) n c) n ((S.set i x).flatMap cl) ∧ w.there g (i * sz) sz ∧ base ≤ g ∧ ∃ cur, w.heap[g]? = some (.cells cur e (0, 0)) := by
  rcases h.2 with ⟨h0, _⟩ | ⟨k, cap, cur, hv, hb, hh, hle, hm, hs, ht⟩
  · cases h0
  · cases hv
    have hlen := flat_len (cl := cl) (S.set i x) (fun y _ => hl y)
    rw [List.length_set] at hlen
    have hnc : n * sz ≤ c * sz := Nat.mul_le_mul_right sz hle
    have hii : i * sz + sz ≤ n * sz := by
      have := Nat.mul_le_mul_right sz (show i + 1 ≤ n by omega)
      rwa [Nat.add_mul, Nat.one_mul] at this
    refine ⟨⟨by rw [hlen, hn], .inr ⟨g, c, _, rfl, hb, heap_setCellsL g _ _ w cur hh, hle, hm, by rw [List.size_toArray, splL_len, Array.length_toList, hs], ?_⟩⟩, fun j hj => ⟨?_, heap_frozen hh _⟩, hb, ⟨cur, hh⟩⟩
    · show (splL cur.toList (i * sz) (cl x)).take (n * sz) = _
      rw [splL_take, ht, flat_set hl hz S i x hi]
    · rw [cell_of_row _ _ _ _ _ _ hh, Array.getElem?_eq_getElem (by rw [hs]; omega)]; rfl
end
/-! ### What a change leaves alone -/
def T4 (ty : TypeId) : Prop := ty = 56 ∨ ty = 65 ∨ ty = 83 ∨ ty = 88 ∨ ty = 3
structure FB (B0 : Nat) (X Y : World) : Prop where
  b : Below B0 X Y
  size : X.heap.size ≤ Y.heap.size
  k : ∀ (i : Nat) (cs : Array Value) (ty : TypeId) (fr : Nat × Nat), X.heap[i]? = some (.cells cs ty fr) → ¬ T4 ty → Y.heap[i]? = X.heap[i]?
section
variable {X Y Z : World} {B0 : Nat}
theorem FB.trans (h : FB B0 X Y) (k : FB B0 Y Z) : FB B0 X Z :=
  ⟨h.b.trans k.b, Nat.le_trans h.size k.size, fun i cs ty fr hi hn => (k.k i cs ty fr ((h.k i cs ty fr hi hn).trans hi) hn).trans (h.k i cs ty fr hi hn)⟩
theorem FB.of_below (h : Below X.heap.size X Y) (hB : B0 ≤ X.heap.size) : FB B0 X Y := ⟨h.mono hB, h.size, fun _ _ _ _ hi _ => h.block _ (heap_lt hi)⟩
theorem FB.of_kept {S : Nat → Prop} (h : Kept S X Y) (hB : B0 ≤ X.heap.size) (hS : ∀ i, S i → B0 ≤ i ∧ ∀ cs ty fr, X.heap[i]? = some (.cells cs ty fr) → T4 ty) : FB B0 X Y := by
  refine ⟨h.below hB (fun i hi => (hS i hi).1), h.size, fun i cs ty fr hi hn => h.block i (heap_lt hi) (fun hs => hn ((hS i hs).2 cs ty fr hi))⟩
theorem FB.of_one {g : Nat} {cs : Array Value} {ty : TypeId} (h : Kept (fun i => i = g) X Y) (hB : B0 ≤ X.heap.size) (hg : B0 ≤ g) (ho : X.heap[g]? = some (.cells cs ty (0, 0))) (ht : T4 ty) : FB B0 X Y :=
  FB.of_kept h hB (fun i hi => by
    have hi : i = g := hi
    subst hi
    refine ⟨hg, fun cs' ty' fr h1 => ?_⟩
    rw [ho] at h1
    injection h1 with h1
    injection h1 with _ e2 _
    rw [← e2]; exact ht)
theorem FB.heap {i : Nat} {cs : Array Value} {ty : TypeId} {fr : Nat × Nat} (h : FB B0 X Y) (hi : X.heap[i]? = some (.cells cs ty fr)) (hn : ¬ T4 ty) : Y.heap[i]? = some (.cells cs ty fr) := (h.k i cs ty fr hi hn).trans hi
end
/-- The library's tables lie below B0. -/
def TB0 (B0 : Nat) (w : World) : Prop := ∀ W, Below B0 w W → Tabs W
theorem TB0.here {B0 : Nat} {w : World} (h : TB0 B0 w) : Tabs w := h w (Below.refl _ _)
theorem TB0.step {B0 : Nat} {w w' : World} (h : TB0 B0 w) (hb : Below B0 w w') : TB0 B0 w' := fun W hW => h W (hb.trans hW)
theorem TB0.of {B0 : Nat} {w w' : World} (h : Tabs w) (hB : w.heap.size ≤ B0) (hb : Below B0 w w') : TB0 B0 w' := fun _ hW => h.below (hb.trans hW) hB
/-! ### Each binding's numbers -/
structure Rw (w : World) (B0 : Nat) (F : Int → Sli) (R : Int → List Int) : Prop where
  row : ∀ x, wfQ x → (F x = none ∧ R x = []) ∨ ∃ g c, F x = some (g, (R x).length, c) ∧ w.ownsRow 0 3 1 (.slice (some ⟨g, 0, none⟩) (R x).length c) (R x).length ((R x).flatMap clN) ∧ B0 ≤ g ∧ 0 < (R x).length
  ap : ∀ x y g n c g' n' c', x ≠ y → F x = some (g, n, c) → F y = some (g', n', c') → g ≠ g'
  lt : ∀ x g n c, F x = some (g, n, c) → ∃ cs, w.heap[g]? = some (.cells cs 3 (0, 0))
def Mp (w : World) (B0 bm N : Nat) (R : Int → List Int) : Prop := B0 ≤ bm ∧ ∃ F, Mq w bm N F ∧ Rw w B0 F R
theorem own_cells {w : World} {b e s n : Nat} {g l c : Nat} {xs : List Value} (h : w.ownsRow b e s (.slice (some ⟨g, 0, none⟩) l c) n xs) : ∃ cs, w.heap[g]? = some (.cells cs e (0, 0)) := by
  rcases h.2 with ⟨hv, _⟩ | ⟨g', cap, cur, hv, _, hh, _⟩
  · cases hv
  · injection hv with e1
    injection e1 with e1
    injection e1 with e1
    rw [e1]; exact ⟨cur, hh⟩
section
variable {w w' : World} {B0 bm N : Nat} {F : Int → Sli} {R : Int → List Int} {S : Nat → Prop} {T : TypeId → Prop}
theorem Rw.only (h : Rw w B0 F R) (k : Kept S w w') (ho : Only w S T) (hT : ¬ T 3) : Rw w' B0 F R :=
  ⟨fun x hx => (h.row x hx).imp id (fun ⟨g, c, h1, h2, h3, h4⟩ => ⟨g, c, h1, own_only h2 k ho hT, h3, h4⟩), h.ap, fun x g n c hF => by
    obtain ⟨cs, hh⟩ := h.lt x g n c hF
    exact ⟨cs, (k.block g (heap_lt hh) (ho.cells hh hT)).trans hh⟩⟩
theorem Mp.only (h : Mp w B0 bm N R) (k : Kept S w w') (ho : Only w S T) (hT : ¬ T 3) : Mp w' B0 bm N R := by
  obtain ⟨hz, F, h1, h2⟩ := h
  obtain ⟨es, clock, hm⟩ := h1.is
  exact ⟨hz, F, h1.of_block (k.block bm h1.lt (ho.map hm)), h2.only k ho hT⟩
theorem Mp.below (h : Mp w B0 bm N R) (hb : Below w.heap.size w w') : Mp w' B0 bm N R := h.only (Kept.of_below hb) (T := fun _ => False) Only.none_ (fun h => h)
theorem Mp.mono {N' : Nat} (h : Mp w B0 bm N R) (hN : N ≤ N') : Mp w B0 bm N' R := by
  obtain ⟨hz, F, h1, h2⟩ := h
  exact ⟨hz, F, h1.mono hN, h2⟩
theorem Mp.made (w : World) (hB : B0 ≤ w.heap.size) : Mp (w.alloc (.map #[] 0)) B0 w.heap.size 0 (fun _ => []) :=
  ⟨hB, fun _ => none, Mq.made w, ⟨fun _ _ => .inl ⟨rfl, rfl⟩, fun _ _ _ _ _ _ _ _ _ h => (by cases h), fun _ _ _ _ h => (by cases h)⟩⟩
theorem Mp.congr {R' : Int → List Int} (h : Mp w B0 bm N R) (hR : ∀ x, wfQ x → R x = R' x) : Mp w B0 bm N R' := by
  obtain ⟨hz, F, h1, h2⟩ := h
  exact ⟨hz, F, h1, ⟨fun x hx => by rw [← hR x hx]; exact h2.row x hx, h2.ap, h2.lt⟩⟩
end
/-! ### Sessions in memory -/
structure Sm (w : World) (B0 d t1 b1 bm : Nat) (A : Option Addr) (c : Nat) (most : Int) (S : List (Option Sd)) (f N : Nat) (M : List Ent) (R : Int → List Int) : Prop where
  obj : w.heap[d]? = some (.cells #[.slice A S.length c, .pointer (some ⟨t1, 0, none⟩), .map (some bm), .int .i64 most, .int .i64 (f : Int)] 56 (0, 0))
  own : w.ownsRow B0 65 6 (.slice A S.length c) S.length (S.flatMap clSl)
  inn : HQ w B0 t1 b1 most M
  mp : Mp w B0 bm N R
  z : B0 ≤ d
section
variable {w w' : World} {B0 d t1 b1 bm : Nat} {A : Option Addr} {c : Nat} {most : Int} {S : List (Option Sd)} {f N : Nat} {M : List Ent} {R : Int → List Int}
theorem Sm.c0 (h : Sm w B0 d t1 b1 bm A c most S f N M R) : w.cell? ⟨d, 0, none⟩ = some (.slice A S.length c) := cells_at h.obj rfl
theorem Sm.c1 (h : Sm w B0 d t1 b1 bm A c most S f N M R) : w.cell? ⟨d, 1, none⟩ = some (.pointer (some ⟨t1, 0, none⟩)) := cells_at h.obj rfl
theorem Sm.c2 (h : Sm w B0 d t1 b1 bm A c most S f N M R) : w.cell? ⟨d, 2, none⟩ = some (.map (some bm)) := cells_at h.obj rfl
theorem Sm.c3 (h : Sm w B0 d t1 b1 bm A c most S f N M R) : w.cell? ⟨d, 3, none⟩ = some (.int .i64 most) := cells_at h.obj rfl
theorem Sm.c4 (h : Sm w B0 d t1 b1 bm A c most S f N M R) : w.cell? ⟨d, 4, none⟩ = some (.int .i64 (f : Int)) := cells_at h.obj rfl
theorem Sm.fr (h : Sm w B0 d t1 b1 bm A c most S f N M R) (i : Nat) : w.frozen? ⟨d, i, none⟩ = false := heap_frozen h.obj i
theorem Sm.bz (h : Sm w B0 d t1 b1 bm A c most S f N M R) : B0 ≤ w.heap.size := Nat.le_trans h.z (Nat.le_of_lt (heap_lt h.obj))
theorem Sm.rds (h : Sm w B0 d t1 b1 bm A c most S f N M R) : RdS clSl 6 w w.heap.size A S := by
  obtain ⟨A', c', e, hr, hc⟩ := own_rds h.own rfl rfl (fun o _ => clSl_len o)
  injection e with e1 e2 e3
  rw [e1]; exact hr
/-- Other things were written. -/
theorem Sm.only {Q : Nat → Prop} {T : TypeId → Prop} (h : Sm w B0 d t1 b1 bm A c most S f N M R) (k : Kept Q w w') (ho : Only w Q T) (n1 : ¬ T 56) (n2 : ¬ T 65) (n3 : ¬ T 83) (n4 : ¬ T 88) (n5 : ¬ T 3) : Sm w' B0 d t1 b1 bm A c most S f N M R := by
  obtain ⟨⟨c1, i1⟩, c2, i2⟩ := h.inn.tab
  exact ⟨(k.block d (heap_lt h.obj) (ho.cells h.obj n1)).trans h.obj, own_only h.own k ho n2, h.inn.kept k (ho.cells i1 n3) (ho.cells i2 n4), h.mp.only k ho n5, h.z⟩
theorem Sm.below (h : Sm w B0 d t1 b1 bm A c most S f N M R) (hb : Below w.heap.size w w') : Sm w' B0 d t1 b1 bm A c most S f N M R :=
  h.only (Kept.of_below hb) (T := fun _ => False) Only.none_ (fun h => h) (fun h => h) (fun h => h) (fun h => h) (fun h => h)
/-- A cell of the block d is set. -/
theorem Sm.seti (h : Sm w B0 d t1 b1 bm A c most S f N M R) {f' : Nat} : Sm (w.setCell ⟨d, 4, none⟩ (.int .i64 (f' : Int))) B0 d t1 b1 bm A c most S f' N M R ∧ FB B0 w (w.setCell ⟨d, 4, none⟩ (.int .i64 (f' : Int))) := by
  have k := Kept.setCell w d 4 (.int .i64 (f' : Int))
  have ho := Only.one h.obj
  obtain ⟨⟨c1, i1⟩, c2, i2⟩ := h.inn.tab
  exact ⟨⟨heap_setCell_same w d 4 _ _ _ h.obj, own_only h.own k ho (nat_ne (by kernel_rfl)), h.inn.kept k (ho.cells i1 (nat_ne (by kernel_rfl))) (ho.cells i2 (nat_ne (by kernel_rfl))), h.mp.only k ho (nat_ne (by kernel_rfl)), h.z⟩,
    FB.of_one k h.bz h.z h.obj (.inl rfl)⟩
/-- Cells of a slot are set. -/
theorem Sm.slot (h : Sm w B0 d t1 b1 bm A c most S f N M R) {i : Nat} (hi : i < S.length) (o : Option Sd) :
    ∃ g, A = some ⟨g, 0, none⟩ ∧ w.there g (i * 6) 6 ∧ Sm (w.setCells g (i * 6) (clSl o)) B0 d t1 b1 bm A c most (S.set i o) f N M R ∧ FB B0 w (w.setCells g (i * 6) (clSl o)) ∧ Kept (fun k => k = g) w (w.setCells g (i * 6) (clSl o)) ∧ d ≠ g ∧ ∃ cur, w.heap[g]? = some (.cells cur 65 (0, 0)) := by
  rcases h.own.2 with ⟨_, h0⟩ | ⟨g, cap, cur, hv, hb, hh, _⟩
  · omega
  · injection hv with e1 e2 e3
    subst e1; subst e3
    obtain ⟨q1, q2, q3, q4⟩ := own_setS (cl := clSl) (sz := 6) clSl_len (by decide) h.own rfl hi o
    have k := Kept.setCells g (clSl o) (i * 6) w
    have ho := Only.one hh
    obtain ⟨⟨c1, i1⟩, c2, i2⟩ := h.inn.tab
    have hdg := heap_ty h.obj hh (nat_ne (by kernel_rfl))
    refine ⟨g, rfl, q2, ⟨?_, by rw [List.length_set]; exact q1, h.inn.kept k (ho.cells i1 (nat_ne (by kernel_rfl))) (ho.cells i2 (nat_ne (by kernel_rfl))), h.mp.only k ho (nat_ne (by kernel_rfl)), h.z⟩,
      FB.of_one k h.bz hb hh (.inr (.inl rfl)), k, hdg, ⟨cur, hh⟩⟩
    rw [List.length_set]
    exact (k.block d (heap_lt h.obj) hdg).trans h.obj
/-- The table of texts was written. -/
theorem Sm.tin (h : Sm w B0 d t1 b1 bm A c most S f N M R) {b' : Nat} {M' : List Ent} (q : HQ w' B0 t1 b' most M') (k : KT t1 b1 w w') (e : b' = b1 ∨ w.heap.size ≤ b') : Sm w' B0 d t1 b' bm A c most S f N M' R ∧ FB B0 w w' := by
  obtain ⟨⟨c1, i1⟩, c2, i2⟩ := h.inn.tab
  have l1 := h.inn.lt
  have ho : Only w (fun i => i = t1 ∨ i = b1) (fun u => u = 83 ∨ u = 88) := fun i hi => by
    rcases hi with rfl | rfl
    · exact .inl ⟨_, _, i1, .inl rfl⟩
    · exact .inl ⟨_, _, i2, .inr rfl⟩
  have nn : ∀ {ty : TypeId}, ty ≠ 83 → ty ≠ 88 → ¬ (ty = 83 ∨ ty = 88) := fun a b => by rintro (h | h); exact a h; exact b h
  refine ⟨⟨(k.block d (heap_lt h.obj) (ho.cells h.obj (nn (nat_ne (by kernel_rfl)) (nat_ne (by kernel_rfl))))).trans h.obj, own_only h.own k ho (nn (nat_ne (by kernel_rfl)) (nat_ne (by kernel_rfl))), q, h.mp.only k ho (nn (nat_ne (by kernel_rfl)) (nat_ne (by kernel_rfl))), h.z⟩, ?_⟩
  refine FB.of_kept k h.bz (fun i hi => ?_)
  have hx : B0 ≤ i := by
    rcases hi with rfl | rfl
    · exact l1.2.2.1
    · exact l1.2.2.2
  refine ⟨hx, fun cs ty fr hg => ?_⟩
  rcases hi with rfl | rfl
  · rw [i1] at hg; injection hg with hg; injection hg with _ e2 _; rw [← e2]; exact .inr (.inr (.inl rfl))
  · rw [i2] at hg; injection hg with hg; injection hg with _ e2 _; rw [← e2]; exact .inr (.inr (.inr (.inl rfl)))
/-- The map of numbers was written. -/
theorem Sm.tmp (h : Sm w B0 d t1 b1 bm A c most S f N M R) {N' : Nat} {R' : Int → List Int} {Q : Nat → Prop} (q : Mp w' B0 bm N' R') (k : Kept (fun i => i = bm ∨ Q i) w w') (ho : Only w Q (fun u => u = 3)) (hQ : ∀ i, Q i → B0 ≤ i) : Sm w' B0 d t1 b1 bm A c most S f N' M R' ∧ FB B0 w w' := by
  obtain ⟨⟨c1, i1⟩, c2, i2⟩ := h.inn.tab
  obtain ⟨hz, F, m1, m2⟩ := h.mp
  obtain ⟨es, clock, hm⟩ := m1.is
  have nb : ∀ {i : Nat} {cs : Array Value} {ty : TypeId} {fr : Nat × Nat}, w.heap[i]? = some (.cells cs ty fr) → ¬ ty = 3 → ¬ (i = bm ∨ Q i) := fun {i cs ty fr} hi ht => by
    rintro (e | e)
    · rw [e, hm] at hi; cases hi
    · exact ho.cells hi ht e
  refine ⟨⟨(k.block d (heap_lt h.obj) (nb h.obj (nat_ne (by kernel_rfl)))).trans h.obj, ?_, h.inn.kept k (nb i1 (nat_ne (by kernel_rfl))) (nb i2 (nat_ne (by kernel_rfl))), q, h.z⟩, FB.of_kept k h.bz (fun i hi => ?_)⟩
  · exact own_keptT h.own k (fun _ hs _ _ hg => nb hg (nat_ne (by kernel_rfl)) hs)
  · rcases hi with rfl | hi
    · exact ⟨hz, fun cs ty fr hg => by rw [hm] at hg; cases hg⟩
    · refine ⟨hQ i hi, fun cs ty fr hg => ?_⟩
      rcases ho i hi with ⟨cs', ty', h1, rfl⟩ | h1
      · rw [h1] at hg; injection hg with hg; injection hg with _ e2 _; rw [← e2]; exact .inr (.inr (.inr (.inr rfl)))
      · have := heap_lt hg; omega
end
end Go.Proofs.YtghbliabmecbcaaDoor

/-
  Layer 24's code: what it keeps; isMade, isTaken, Len, Find. Conditions are each theorem's own.
-/
namespace Go.Proofs.YtghbliabmecbcaaDoor
open Go.RowKit Go.Shelf Go.Maps
/-- Sessions lie at block d. -/
structure Ts (w : World) (B0 d t1 b1 bm : Nat) (A : Option Addr) (c : Nat) (most : Int) (S : List (Option Sd)) (f N : Nat) : Prop where
  m : Sm w B0 d t1 b1 bm A c most S f N (inE (docB 0 S)) (idsD (docB 0 S))
  free : FreeB S f
  fit : ∀ e ∈ docB 0 S, e.2.fits
  ni : (docB 0 S).Pairwise (fun a b => a.2.inn ≠ b.2.inn)
  mst : 0 ≤ most ∧ most ≤ 4096
  n : (S.length : Int) ≤ most
theorem run_load_pse {o : Oper} {a : Act} {w : World} {x : Operand} {p : Addr} {A : Option Addr} (ho : o.op = .load 53 x) (hx : a.eval x = .pointer (some p)) (hc : w.cell? p = some (.pointer A)) :
    (execOp a.eval o).run Tryd.prog w = .ok (.value (.pointer A)) w := run_load_hstp ho hx hc
theorem run_load_sls {o : Oper} {a : Act} {w : World} {x : Operand} {p : Addr} {A : Option Addr} {n c : Nat} (ho : o.op = .load 52 x) (hx : a.eval x = .pointer (some p)) (hc : w.cell? p = some (.slice A n c)) :
    (execOp a.eval o).run Tryd.prog w = .ok (.value (.slice A n c)) w := by
  unfold execOp
  simp only [ho, hx, Instr.loadAt, Instr.sureAddr, Sem.run_bind, Sem.run_pure, Result.andThen_ok]
  go_simp
def clR (x : Sd) : List Value := [.int .i64 x.a, .int .i64 x.p]
set_option maxRecDepth 100000 in
theorem run_load_re {o : Oper} {a : Act} {w : World} {y : Operand} {g i : Nat} {x : Sd} (ho : o.op = .load 32 y) (hx : a.eval y = .pointer (some ⟨g, i, none⟩)) (hr : w.rangeAt g i (clR x)) :
    (execOp a.eval o).run Tryd.prog w = .ok (.value (reV x)) w := by
  have h := run_loadVar_mid (P := Tryd.prog) w g i 32 (clR x) _ hr Tryd.underlying32 rfl (by rw [show (clR x).length = 2 from rfl]; kernel_rfl)
  unfold execOp
  simp only [ho, hx, Instr.loadAt, Instr.sureAddr, Sem.run_bind, Sem.run_pure, Result.andThen_ok, h]
  rfl
set_option maxRecDepth 100000 in
theorem run_load_se {o : Oper} {a : Act} {w : World} {y : Operand} {g i : Nat} {x : Sd} (ho : o.op = .load 34 y) (hx : a.eval y = .pointer (some ⟨g, i, none⟩)) (hr : w.rangeAt g i (clSe x)) :
    (execOp a.eval o).run Tryd.prog w = .ok (.value (seV x)) w := by
  have h := run_loadVar_mid (P := Tryd.prog) w g i 34 (clSe x) _ hr Tryd.underlying34 rfl (by rw [show (clSe x).length = 5 from rfl]; kernel_rfl)
  unfold execOp
  simp only [ho, hx, Instr.loadAt, Instr.sureAddr, Sem.run_bind, Sem.run_pure, Result.andThen_ok, h]
  rfl
/-- Which session is found by its binding and its remote endpoint. -/
def fndS (l : List (Nat × Sd)) (x : Sd) : Option (Nat × Sd) := l.find? (fun e => decide (e.2.inn = x.inn))
def numS (o : Option (Nat × Sd)) : Int := match o with | some e => (e.1 : Int) | none => 0
theorem fndS_some {l : List (Nat × Sd)} {x : Sd} {e : Nat × Sd} (h : fndS l x = some e) : e ∈ l ∧ e.2.inn = x.inn := ⟨List.mem_of_find?_eq_some h, by simpa using List.find?_some h⟩
theorem fndS_none {l : List (Nat × Sd)} {x : Sd} (h : fndS l x = none) : ∀ e ∈ l, e.2.inn ≠ x.inn := fun e he => by simpa using List.find?_eq_none.1 h e he
/-- A place that is taken. -/
def takB (S : List (Option Sd)) (i : Int) : Option Sd := if i < 0 then none else (S[i.toNat]?).join
section
variable {w w' : World} {B0 d t1 b1 bm : Nat} {A : Option Addr} {c : Nat} {most : Int} {S : List (Option Sd)} {f N : Nat} {M : List Ent} {R : Int → List Int}
theorem Ts.below (h : Ts w B0 d t1 b1 bm A c most S f N) (hb : Below w.heap.size w w') : Ts w' B0 d t1 b1 bm A c most S f N := ⟨h.m.below hb, h.free, h.fit, h.ni, h.mst, h.n⟩
theorem Ts.mono {N' : Nat} (h : Ts w B0 d t1 b1 bm A c most S f N) (hN : N ≤ N') : Ts w B0 d t1 b1 bm A c most S f N' := ⟨⟨h.m.obj, h.m.own, h.m.inn, h.m.mp.mono hN, h.m.z⟩, h.free, h.fit, h.ni, h.mst, h.n⟩
theorem semade {g : Nat} (k1 : w.cell? ⟨d, 1, none⟩ = some (.pointer (some ⟨g, 0, none⟩))) : Calls Tryd.prog 24 #[.pointer (some ⟨d, 0, none⟩)] w fun e w' => e = .returned (.bool true) ∧ w = w' := by
  go_enter Tryd.func24, Tryd.ntmps24
  go_wp2
  go_ret
  exact ⟨rfl, rfl⟩
set_option maxRecDepth 100000 in
theorem setakenR (k0 : w.cell? ⟨d, 0, none⟩ = some (.slice A S.length c)) (hrd : RdS clSl 6 w w.heap.size A S) (i : Int) : Calls Tryd.prog 29 #[.pointer (some ⟨d, 0, none⟩), .int .i64 i] w fun e w' => e = .returned (.bool (takB S i).isSome) ∧ w = w' := by
  by_cases h1 : i < 0
  · have d1 : decide (i ≥ 0) = false := decide_eq_false (by omega)
    have d2 : decide (0 ≤ i) = false := d1
    have e : takB S i = none := by unfold takB; rw [if_pos h1]
    rw [e]
    clear hrd h1 e
    go_enter Tryd.func29, Tryd.ntmps29
    go_wp2
    go_ret
    exact ⟨rfl, rfl⟩
  · obtain ⟨j, rfl⟩ : ∃ j : Nat, i = (j : Int) := ⟨i.toNat, by omega⟩
    have d1 : decide ((j : Int) ≥ 0) = true := decide_eq_true (by omega)
    have d2 : decide (0 ≤ (j : Int)) = true := d1
    have e : takB S (j : Int) = (S[j]?).join := by unfold takB; rw [if_neg h1, Int.toNat_natCast]
    rw [e]
    obtain ⟨n, hn⟩ : ∃ n, n = S.length := ⟨_, rfl⟩
    rw [← hn] at k0
    by_cases h2 : j < n
    · obtain ⟨o, ho⟩ : ∃ o, S[j]? = some o := ⟨_, List.getElem?_eq_getElem (by omega)⟩
      obtain ⟨g, q, rfl, hg, hr0⟩ := hrd (by omega)
      have hr := hr0 j o ho
      have k8 : w.cell? ⟨g, q + j * 6 + 5, none⟩ = some (.bool o.isSome) := hr 5 _ (by cases o <;> rfl)
      have d3 : decide ((j : Int) < (n : Int)) = true := decide_eq_true (by omega)
      rw [ho]
      have e2 : ((some o).join).isSome = o.isSome := rfl
      rw [e2]
      obtain ⟨B, hB⟩ : ∃ B, B = o.isSome := ⟨_, rfl⟩
      rw [← hB] at k8 ⊢
      clear hrd h1 hn e e2 ho hr hr0 hB
      go_enter Tryd.func29, Tryd.ntmps29
      go_wp2
      go_ret
      exact ⟨rfl, rfl⟩
    · have d3 : decide ((j : Int) < (n : Int)) = false := decide_eq_false (by omega)
      have e2 : S[j]? = none := List.getElem?_eq_none (by omega)
      rw [e2]
      clear hrd h1 hn e e2
      go_enter Tryd.func29, Tryd.ntmps29
      go_wp2
      go_ret
      exact ⟨rfl, rfl⟩
theorem setaken (h : Sm w B0 d t1 b1 bm A c most S f N M R) (i : Int) : Calls Tryd.prog 29 #[.pointer (some ⟨d, 0, none⟩), .int .i64 i] w fun e w' => e = .returned (.bool (takB S i).isSome) ∧ w = w' := setakenR h.c0 h.rds i
set_option maxRecDepth 100000 in
theorem selen (h : Sm w B0 d t1 b1 bm A c most S f N M R) : Calls Tryd.prog 21 #[.pointer (some ⟨d, 0, none⟩)] w fun e w' => e = .returned (.int .i64 (M.length : Int)) ∧ w = w' := by
  have k1 := h.c1
  have HK := Lib.hid h
  clear h
  go_enter Tryd.func21, Tryd.ntmps21
  go_wp2_with (first
    | (go_at_call 24; refine (semade k1).mono ?_; rintro e w1 ⟨rfl, rfl⟩)
    | (go_at_call 36; refine (hm_len HK.out.inn.hm).mono ?_; rintro e w1 ⟨rfl, rfl⟩))
  go_ret
  exact ⟨rfl, rfl⟩
set_option maxRecDepth 100000 in
theorem sefind_yes {l : List (Nat × Sd)} (h : Sm w B0 d t1 b1 bm A c most S f N (inE l) R) (hT : Tabs w) (x : Sd) (hx : x.fits) {k : Nat} {y : Sd} (hy : (k, y) ∈ l) (hyx : y.inn = x.inn) : Calls Tryd.prog 17 #[.pointer (some ⟨d, 0, none⟩), .int .i64 x.b, reV x] w fun e w' => e = .returned (.tuple #[.int .i64 (k : Int), .bool true]) ∧ Below w.heap.size w w' := by
  have HX : Hid ((⟨txtN x.inn, (k : Int)⟩ : Ent) ∈ inE l) := Lib.hid (List.mem_map.2 ⟨(k, y), hy, by rw [← hyx]⟩)
  have HLEN : Hid ((txtN x.inn).length ≤ 1000000) := Lib.hid (by have h7 := txtN_len hx.inn; have e7 : (x.inn).length ≤ 4 := (by simp [Sd.inn]); omega)
  obtain ⟨V, hV⟩ : ∃ V, V = w.alloc (.cells (clR x).toArray 32) := ⟨_, rfl⟩
  have bV : Below w.heap.size w V := by rw [hV]; exact (Below.refl _ w).alloc (Nat.le_refl _) _
  have hbV : V.heap[w.heap.size]? = some (.cells (clR x).toArray 32 (0, 0)) := by rw [hV]; exact World.alloc_heap_new w _
  have hrV : V.rangeAt w.heap.size 0 (clR x) := range_heap hbV
  have HK := Lib.hid (h.below bV)
  have HTV := Lib.hid (hT.step bV)
  have k1 := HK.out.c1
  have HC : Hid (∀ U, Below V.heap.size V U → U.cell? ⟨d, 1, none⟩ = some (.pointer (some ⟨t1, 0, none⟩))) := Lib.hid (fun U hU => (HK.out.below hU).c1)
  have HR : Hid (∀ U, Below V.heap.size V U → U.rangeAt w.heap.size 0 (clR x)) := Lib.hid (fun U hU j v hj => (World.cell?_of_block (hU.block w.heap.size (heap_lt hbV))).trans (hrV j v hj))
  have HF := Lib.hid hx
  have HV := Lib.hid (show w.alloc (.cells #[.int .i64 x.a, .int .i64 x.p] 32) = V from hV.symm)
  clear h hT hx hV hbV hrV hy hyx
  unfold reV
  go_enter Tryd.func17, Tryd.ntmps17
  go_upto_region 1 with fail
  rw [HV.out]
  go_upto_region 3 with (go_at_call 24; refine (semade k1).mono ?_; rintro e w1 ⟨rfl, rfl⟩)
  refine wp_region_held_drew (S := fun w' => Below V.heap.size V w') (by kernel_rfl) (Below.refl _ V).drew (fun hS => ?_)
  refine held_pure (i := 0) (oi := ⟨some 11, _, _, _, _, _⟩) rfl (by kernel_rfl) (by kernel_rfl) (by kernel_rfl) (fun _ _ _ h => h) (by rfl) (v := ?_) (fun w hSw => ?_) hS (fun hS => ?_)
  rotate_left
  · go_simp; try with_reducible rfl
  try go_frame
  refine held_pure (i := 1) (oi := ⟨some 12, _, _, _, _, _⟩) rfl (by kernel_rfl) (by kernel_rfl) (by kernel_rfl) (fun _ _ _ h => h) (by rfl) (v := ?_) (fun w hSw => ?_) hS (fun hS => ?_)
  rotate_left
  · go_simp; try with_reducible rfl
  try go_frame
  refine held_pure (i := 2) (oi := ⟨some 13, _, _, _, _, _⟩) rfl (by kernel_rfl) (by kernel_rfl) (by kernel_rfl) (fun _ _ _ h => h) (by rfl) (v := ?_) (fun w hSw => ?_) hS (fun hS => ?_)
  rotate_left
  · go_simp; try with_reducible rfl
  try go_frame
  refine held_pure (i := 3) (oi := ⟨some 14, _, _, _, _, _⟩) rfl (by kernel_rfl) (by kernel_rfl) (by kernel_rfl) (fun _ _ _ h => h) (by rfl) (fun w hSw => run_load_pse rfl rfl (HC.out _ hSw)) hS (fun hS => ?_)
  try go_frame
  refine held_pure (i := 4) (oi := ⟨some 15, _, _, _, _, _⟩) rfl (by kernel_rfl) (by kernel_rfl) (by kernel_rfl) (fun _ _ _ h => h) (by rfl) (v := ?_) (fun w hSw => ?_) hS (fun hS => ?_)
  rotate_left
  · go_simp; try with_reducible rfl
  try go_frame
  refine held_pure (i := 5) (oi := ⟨some 16, _, _, _, _, _⟩) rfl (by kernel_rfl) (by kernel_rfl) (by kernel_rfl) (fun _ _ _ h => h) (by rfl) (fun w hSw => run_load_re rfl rfl (HR.out _ hSw)) hS (fun hS => ?_)
  try go_frame
  refine wpAnyH_ready (rs := [6]) (by kernel_rfl) (by simp) (AllReadyH.cons (o := ⟨some 17, _, _, _, _, _⟩) rfl (fun K hK => ?_) AllReadyH.nil)
  rw [if_pos (by rfl)]
  go_simp
  refine (setext x V.drew HF.out (HTV.out.step (Below.refl V.heap.size V).drew)).mono ?_
  rintro e w5 ⟨rfl, x5⟩
  have x6 : Below V.heap.size V w5 := (Below.refl V.heap.size V).drew.trans x5
  show K _ _
  refine hK.out _ _ x6 (fun hS => ?_)
  clear hK K
  try go_frame
  refine wpAnyH_ready (rs := [7]) (by kernel_rfl) (by simp) (AllReadyH.cons (o := ⟨some 18, _, _, _, _, _⟩) rfl (fun K hK => ?_) AllReadyH.nil)
  rw [if_pos (by rfl)]
  go_simp
  refine (hm_get_yes (x := ⟨txtN x.inn, (k : Int)⟩) (HK.out.inn.below x6).hm HX.out HLEN.out).mono ?_
  rintro e w7 ⟨rfl, x7⟩
  have x8 := x6.trans (x7.mono x6.size)
  show K _ _
  refine hK.out _ _ x8 (fun hS => ?_)
  clear hK K
  try go_frame
  refine held_pure (i := 8) (oi := ⟨some 19, _, _, _, _, _⟩) rfl (by kernel_rfl) (by kernel_rfl) (by kernel_rfl) (fun _ _ _ h => h) (by rfl) (v := ?_) (fun w hSw => ?_) hS (fun hS => ?_)
  rotate_left
  · go_simp; try with_reducible rfl
  try go_frame
  refine held_pure (i := 9) (oi := ⟨some 20, _, _, _, _, _⟩) rfl (by kernel_rfl) (by kernel_rfl) (by kernel_rfl) (fun _ _ _ h => h) (by rfl) (v := ?_) (fun w hSw => ?_) hS (fun hS => ?_)
  rotate_left
  · go_simp; try with_reducible rfl
  try go_frame
  refine held_pure (i := 10) (oi := ⟨some 6, _, _, _, _, _⟩) rfl (by kernel_rfl) (by kernel_rfl) (by kernel_rfl) (fun _ _ _ h => h) (by rfl) (v := ?_) (fun w hSw => ?_) hS (fun hS => ?_)
  rotate_left
  · go_simp; try with_reducible rfl
  try go_frame
  refine held_pure (i := 11) (oi := ⟨some 7, _, _, _, _, _⟩) rfl (by kernel_rfl) (by kernel_rfl) (by kernel_rfl) (fun _ _ _ h => h) (by rfl) (v := ?_) (fun w hSw => ?_) hS (fun hS => ?_)
  rotate_left
  · go_simp; try with_reducible rfl
  try go_frame
  refine wpAnyH_done (by kernel_rfl) ?_ _
  go_wp2_with fail
  refine bodyPost_ret (results_tmp2 rfl _ _ _) rfl ⟨rfl, bV.trans (hS.mono bV.size)⟩
set_option maxRecDepth 100000 in
theorem sefind_no {l : List (Nat × Sd)} (h : Sm w B0 d t1 b1 bm A c most S f N (inE l) R) (hT : Tabs w) (x : Sd) (hx : x.fits) (hn : ∀ e ∈ l, e.2.inn ≠ x.inn) : Calls Tryd.prog 17 #[.pointer (some ⟨d, 0, none⟩), .int .i64 x.b, reV x] w fun e w' => e = .returned (.tuple #[.int .i64 0, .bool false]) ∧ Below w.heap.size w w' := by
  have HX : Hid (∀ z ∈ inE l, z.key ≠ txtN x.inn) := Lib.hid (inE_key hn)
  have HLEN : Hid ((txtN x.inn).length ≤ 1000000) := Lib.hid (by have h7 := txtN_len hx.inn; have e7 : (x.inn).length ≤ 4 := (by simp [Sd.inn]); omega)
  obtain ⟨V, hV⟩ : ∃ V, V = w.alloc (.cells (clR x).toArray 32) := ⟨_, rfl⟩
  have bV : Below w.heap.size w V := by rw [hV]; exact (Below.refl _ w).alloc (Nat.le_refl _) _
  have hbV : V.heap[w.heap.size]? = some (.cells (clR x).toArray 32 (0, 0)) := by rw [hV]; exact World.alloc_heap_new w _
  have hrV : V.rangeAt w.heap.size 0 (clR x) := range_heap hbV
  have HK := Lib.hid (h.below bV)
  have HTV := Lib.hid (hT.step bV)
  have k1 := HK.out.c1
  have HC : Hid (∀ U, Below V.heap.size V U → U.cell? ⟨d, 1, none⟩ = some (.pointer (some ⟨t1, 0, none⟩))) := Lib.hid (fun U hU => (HK.out.below hU).c1)
  have HR : Hid (∀ U, Below V.heap.size V U → U.rangeAt w.heap.size 0 (clR x)) := Lib.hid (fun U hU j v hj => (World.cell?_of_block (hU.block w.heap.size (heap_lt hbV))).trans (hrV j v hj))
  have HF := Lib.hid hx
  have HV := Lib.hid (show w.alloc (.cells #[.int .i64 x.a, .int .i64 x.p] 32) = V from hV.symm)
  clear h hT hx hV hbV hrV hn
  unfold reV
  go_enter Tryd.func17, Tryd.ntmps17
  go_upto_region 1 with fail
  rw [HV.out]
  go_upto_region 3 with (go_at_call 24; refine (semade k1).mono ?_; rintro e w1 ⟨rfl, rfl⟩)
  refine wp_region_held_drew (S := fun w' => Below V.heap.size V w') (by kernel_rfl) (Below.refl _ V).drew (fun hS => ?_)
  refine held_pure (i := 0) (oi := ⟨some 11, _, _, _, _, _⟩) rfl (by kernel_rfl) (by kernel_rfl) (by kernel_rfl) (fun _ _ _ h => h) (by rfl) (v := ?_) (fun w hSw => ?_) hS (fun hS => ?_)
  rotate_left
  · go_simp; try with_reducible rfl
  try go_frame
  refine held_pure (i := 1) (oi := ⟨some 12, _, _, _, _, _⟩) rfl (by kernel_rfl) (by kernel_rfl) (by kernel_rfl) (fun _ _ _ h => h) (by rfl) (v := ?_) (fun w hSw => ?_) hS (fun hS => ?_)
  rotate_left
  · go_simp; try with_reducible rfl
  try go_frame
  refine held_pure (i := 2) (oi := ⟨some 13, _, _, _, _, _⟩) rfl (by kernel_rfl) (by kernel_rfl) (by kernel_rfl) (fun _ _ _ h => h) (by rfl) (v := ?_) (fun w hSw => ?_) hS (fun hS => ?_)
  rotate_left
  · go_simp; try with_reducible rfl
  try go_frame
  refine held_pure (i := 3) (oi := ⟨some 14, _, _, _, _, _⟩) rfl (by kernel_rfl) (by kernel_rfl) (by kernel_rfl) (fun _ _ _ h => h) (by rfl) (fun w hSw => run_load_pse rfl rfl (HC.out _ hSw)) hS (fun hS => ?_)
  try go_frame
  refine held_pure (i := 4) (oi := ⟨some 15, _, _, _, _, _⟩) rfl (by kernel_rfl) (by kernel_rfl) (by kernel_rfl) (fun _ _ _ h => h) (by rfl) (v := ?_) (fun w hSw => ?_) hS (fun hS => ?_)
  rotate_left
  · go_simp; try with_reducible rfl
  try go_frame
  refine held_pure (i := 5) (oi := ⟨some 16, _, _, _, _, _⟩) rfl (by kernel_rfl) (by kernel_rfl) (by kernel_rfl) (fun _ _ _ h => h) (by rfl) (fun w hSw => run_load_re rfl rfl (HR.out _ hSw)) hS (fun hS => ?_)
  try go_frame
  refine wpAnyH_ready (rs := [6]) (by kernel_rfl) (by simp) (AllReadyH.cons (o := ⟨some 17, _, _, _, _, _⟩) rfl (fun K hK => ?_) AllReadyH.nil)
  rw [if_pos (by rfl)]
  go_simp
  refine (setext x V.drew HF.out (HTV.out.step (Below.refl V.heap.size V).drew)).mono ?_
  rintro e w5 ⟨rfl, x5⟩
  have x6 : Below V.heap.size V w5 := (Below.refl V.heap.size V).drew.trans x5
  show K _ _
  refine hK.out _ _ x6 (fun hS => ?_)
  clear hK K
  try go_frame
  refine wpAnyH_ready (rs := [7]) (by kernel_rfl) (by simp) (AllReadyH.cons (o := ⟨some 18, _, _, _, _, _⟩) rfl (fun K hK => ?_) AllReadyH.nil)
  rw [if_pos (by rfl)]
  go_simp
  refine (hm_get_no (key := txtN x.inn) (HK.out.inn.below x6).hm HX.out HLEN.out).mono ?_
  rintro e w7 ⟨rfl, x7⟩
  have x8 := x6.trans (x7.mono x6.size)
  show K _ _
  refine hK.out _ _ x8 (fun hS => ?_)
  clear hK K
  try go_frame
  refine held_pure (i := 8) (oi := ⟨some 19, _, _, _, _, _⟩) rfl (by kernel_rfl) (by kernel_rfl) (by kernel_rfl) (fun _ _ _ h => h) (by rfl) (v := ?_) (fun w hSw => ?_) hS (fun hS => ?_)
  rotate_left
  · go_simp; try with_reducible rfl
  try go_frame
  refine held_pure (i := 9) (oi := ⟨some 20, _, _, _, _, _⟩) rfl (by kernel_rfl) (by kernel_rfl) (by kernel_rfl) (fun _ _ _ h => h) (by rfl) (v := ?_) (fun w hSw => ?_) hS (fun hS => ?_)
  rotate_left
  · go_simp; try with_reducible rfl
  try go_frame
  refine held_pure (i := 10) (oi := ⟨some 6, _, _, _, _, _⟩) rfl (by kernel_rfl) (by kernel_rfl) (by kernel_rfl) (fun _ _ _ h => h) (by rfl) (v := ?_) (fun w hSw => ?_) hS (fun hS => ?_)
  rotate_left
  · go_simp; try with_reducible rfl
  try go_frame
  refine held_pure (i := 11) (oi := ⟨some 7, _, _, _, _, _⟩) rfl (by kernel_rfl) (by kernel_rfl) (by kernel_rfl) (fun _ _ _ h => h) (by rfl) (v := ?_) (fun w hSw => ?_) hS (fun hS => ?_)
  rotate_left
  · go_simp; try with_reducible rfl
  try go_frame
  refine wpAnyH_done (by kernel_rfl) ?_ _
  go_wp2_with fail
  refine bodyPost_ret (results_tmp2 rfl _ _ _) rfl ⟨rfl, bV.trans (hS.mono bV.size)⟩
theorem sefind {l : List (Nat × Sd)} (h : Sm w B0 d t1 b1 bm A c most S f N (inE l) R) (hT : Tabs w) (x : Sd) (hx : x.fits) : Calls Tryd.prog 17 #[.pointer (some ⟨d, 0, none⟩), .int .i64 x.b, reV x] w fun e w' =>
    e = .returned (.tuple #[.int .i64 (numS (fndS l x)), .bool (fndS l x).isSome]) ∧ Below w.heap.size w w' := by
  cases hf : fndS l x with
  | none => exact sefind_no h hT x hx (fndS_none hf)
  | some e => exact sefind_yes h hT x hx (k := e.1) (y := e.2) (fndS_some hf).1 (fndS_some hf).2
end
end Go.Proofs.YtghbliabmecbcaaDoor

/-
  Layer 24's code: the least number that is free, from one on. Conditions are each theorem's own.
-/
namespace Go.Proofs.YtghbliabmecbcaaDoor
open Go.RowKit Go.Shelf Go.Maps
def cutSl (A : Option Addr) (c lo : Nat) : Option Addr := if c = lo then A else A.map (·.add (lo * 6))
theorem slice_sls : Tryd.prog.underlying 52 = some (.slice (Tryd.prog.elem 52)) := by kernel_rfl
theorem sizeOf_sls (w : World) : (Go.sizeOf (Tryd.prog.elem 52)).run Tryd.prog w = .ok 6 w := by
  rw [show Tryd.prog.elem 52 = 65 by kernel_rfl]
  go_simp
theorem run_scut_l {o : Oper} {a : Act} {w : World} {x lo : Operand} {A : Option Addr} {n c l m : Nat} (ho : o.op = .slice 52 x (some lo) none none) (hx : a.eval x = .slice A n c) (hl : a.eval lo = .int .i64 (l : Int)) (hn : l ≤ n) (hm : m = n - l) :
    (execOp a.eval o).run Tryd.prog w = .ok (.value (.slice (cutSl A c l) m (c - l))) w := by
  subst hm
  have h1 := run_slice_l (P := Tryd.prog) (w := w) 52 A n c slice_sls .i64 (l : Int) (by omega) (by omega)
  unfold execOp
  simp only [ho, hx, hl, Option.map, Sem.run_bind, run_sliceAt_slice _ _ _ _ _ _ slice_sls, h1, sizeOf_sls, Result.andThen_ok]
  rfl
theorem run_load_slo {o : Oper} {a : Act} {w : World} {x : Operand} {g i : Nat} {y : Option Sd} (ho : o.op = .load 65 x) (hx : a.eval x = .pointer (some ⟨g, i, none⟩)) (hr : w.rangeAt g i (clSl y)) :
    (execOp a.eval o).run Tryd.prog w = .ok (.value (.agg (clSl y).toArray)) w := by
  have h := run_loadVar_mid (P := Tryd.prog) w g i 65 (clSl y) _ hr Tryd.underlying65 rfl (by rw [clSl_len]; kernel_rfl)
  unfold execOp
  simp only [ho, hx, Instr.loadAt, Instr.sureAddr, Sem.run_bind, Sem.run_pure, Result.andThen_ok, h]
section
variable {w : World}
theorem rds_cutSl {B c l : Nat} {A : Option Addr} {S : List (Option Sd)} (h : RdS clSl 6 w B A S) (hl : l ≤ S.length) (hc : S.length ≤ c) : RdS clSl 6 w B (cutSl A c l) (S.drop l) := fun hn => by
  rw [List.length_drop] at hn
  obtain ⟨b, off, rfl, hb, hr⟩ := h (by omega)
  unfold cutSl
  rw [if_neg (by omega)]
  refine ⟨b, off + l * 6, by simp [Addr.add], hb, fun j x hx => ?_⟩
  rw [List.getElem?_drop] at hx
  have := hr (l + j) x hx
  rwa [show off + l * 6 + j * 6 = off + (l + j) * 6 by omega]
set_option maxRecDepth 100000 in
theorem sefree1 (o : Option Sd) (w : World) : Calls Tryd.prog 48 #[.agg (clSl o).toArray] w fun e w' => e = .returned (.bool (!o.isSome)) ∧ Below w.heap.size w w' := by
  have bV : Below w.heap.size w (w.alloc (.cells (clSl o).toArray 65)) := (Below.refl _ w).alloc (Nat.le_refl _) _
  have hbV : (w.alloc (.cells (clSl o).toArray 65)).heap[w.heap.size]? = some (.cells (clSl o).toArray 65 (0, 0)) := World.alloc_heap_new w _
  have k5 : (w.alloc (.cells (clSl o).toArray 65)).cell? ⟨w.heap.size, 5, none⟩ = some (.bool o.isSome) := cells_at (i := 5) hbV (by cases o <;> rfl)
  cases o with
  | none =>
    unfold clSl at *
    go_enter Tryd.func48, Tryd.ntmps48
    go_wp2
    go_ret
    exact ⟨rfl, bV⟩
  | some x =>
    unfold clSl clSe at *
    go_enter Tryd.func48, Tryd.ntmps48
    go_wp2
    go_ret
    exact ⟨rfl, bV⟩
set_option maxRecDepth 100000 in
set_option maxHeartbeats 1000000 in
theorem seindex (A : Option Addr) (c n : Nat) (l : List (Option Sd)) (B : Nat) (w : World) (eg : ∀ args w, (callFunc 48 args).run Tryd.prog w = .ok (.enter 48 args) w)
    (hr : RdS clSl 6 w B A l) (hB : B ≤ w.heap.size) (hn : n = l.length) (hl : n ≤ 100000) :
    Calls Tryd.prog 47 #[.slice A n c, .func (.func 48) #[] #[]] w fun e w' =>
      ((∃ k : Nat, e = .returned (.int .i64 (k : Int)) ∧ k < n ∧ l[k]? = some none ∧ ∀ j, j < k → ∃ y, l[j]? = some (some y)) ∨ (e = .returned (.int .i64 (-1)) ∧ ∀ j, j < n → ∃ y, l[j]? = some (some y))) ∧ Below w.heap.size w w' := by
  have HN := Lib.hid hn
  have HR := Lib.hid hr
  clear hn hr
  go_enter Tryd.func47, Tryd.ntmps47
  go_wp2
  go_loopw [5, 8] (fun _ s8 wr => ∃ kk : Nat, kk ≤ n ∧ s8 = .int .i64 (kk : Int) ∧ Hid (∀ j, j < kk → ∃ y, l[j]? = some (some y)) ∧ Below w.heap.size w wr) (fun _ i _ => n - (intOf i).toNat)
  case atStart => exact ⟨0, Nat.zero_le _, rfl, Lib.hid (fun j hj => absurd hj (Nat.not_lt_zero _)), Below.refl _ w⟩
  case round =>
    obtain ⟨kk, hkk, rfl, HE, hbel⟩ := hrel
    by_cases hlt : kk < n
    · obtain ⟨x, hx⟩ : ∃ x, l[kk]? = some x := ⟨_, List.getElem?_eq_getElem (by rw [← HN.out]; exact hlt)⟩
      have hcall := Lib.hid (sefree1 x wr)
      obtain ⟨b1, o1, rfl, hb1, hr1⟩ := HR.out (by rw [← HN.out]; omega)
      have hrow := range_below (hr1 kk x hx) hb1 (hbel.mono hB)
      have HX := Lib.hid hx
      clear hx hr1
      cases x with
      | none =>
        go_wp2_with (first
          | ((with_reducible show wpList _ _ _ (Oper.mk _ (Op.load 65 _) _ _ _ _ :: _) _ _); refine wpList_val rfl (run_load_slo rfl rfl hrow) ?_)
          | (go_at_fn 48; refine hcall.out.mono ?_; rintro e w' ⟨rfl, hb'⟩))
        go_ret
        exact ⟨.inl ⟨kk, rfl, hlt, HX.out, HE.out⟩, hbel.trans (hb'.mono hbel.size)⟩
      | some y =>
        go_wp2_with (first
          | ((with_reducible show wpList _ _ _ (Oper.mk _ (Op.load 65 _) _ _ _ _ :: _) _ _); refine wpList_val rfl (run_load_slo rfl rfl hrow) ?_)
          | (go_at_fn 48; refine hcall.out.mono ?_; rintro e w' ⟨rfl, hb'⟩))
        go_roundw
        case rel => exact ⟨kk + 1, by omega, by simp, Lib.hid (fun j hj => by by_cases h : j = kk; exact ⟨y, by rw [h]; exact HX.out⟩; exact HE.out j (by omega)), hbel.trans (hb'.mono hbel.size)⟩
        case measure => simp [intOf]; omega
    · obtain rfl : n = kk := by omega
      go_wp2
      go_ret
      exact ⟨.inr ⟨rfl, HE.out⟩, hbel⟩
end
section
variable {w w' : World} {B0 d t1 b1 bm : Nat} {A : Option Addr} {c : Nat} {most : Int} {S : List (Option Sd)} {f N : Nat} {M : List Ent} {R : Int → List Int}
set_option maxRecDepth 100000 in
set_option maxHeartbeats 1000000 in
theorem sefreefrom (h : Sm w B0 d t1 b1 bm A c most S f N M R) (i : Nat) (hi : i ≤ S.length) (hS : S.length ≤ 100000) :
    Calls Tryd.prog 28 #[.pointer (some ⟨d, 0, none⟩), .int .i64 (i : Int)] w fun e w' => ∃ k : Nat, e = .returned (.int .i64 (k : Int)) ∧ i ≤ k ∧ k ≤ S.length ∧ (∀ j, i ≤ j → j < k → ∃ y, S[j]? = some (some y)) ∧ (∀ y, S[k]? ≠ some (some y)) ∧ Below w.heap.size w w' := by
  have k0 := h.c0
  have hcap : S.length ≤ c := by
    rcases h.own.2 with ⟨hv, h0⟩ | ⟨g, cap, cur, hv, _, hh, hle, _⟩
    · omega
    · injection hv with _ _ e3; rw [e3]; exact hle
  have HIX := Lib.hid (seindex (cutSl A c i) (c - i) (S.length - i) (S.drop i) w.heap.size w (enters_of Tryd.func48 (by kernel_rfl) rfl) (rds_cutSl h.rds hi hcap) (Nat.le_refl _) (by rw [List.length_drop]) (by omega))
  have HK := Lib.hid h
  obtain ⟨n, hn⟩ : ∃ n, n = S.length := ⟨_, rfl⟩
  rw [← hn] at k0 hi HIX hS
  have HN := Lib.hid hn
  have hdr : ∀ j, (S.drop i)[j]? = S[i + j]? := fun j => by rw [List.getElem?_drop]
  have HD := Lib.hid hdr
  clear h hn hcap hdr
  go_enter Tryd.func28, Tryd.ntmps28
  go_upto_region 2 with (first
    | ((with_reducible show wpList _ _ _ (Oper.mk _ (Op.slice _ _ _ _ _) _ _ _ _ :: _) _ _); refine wpList_val rfl (run_scut_l (l := i) rfl rfl rfl hi rfl) ?_)
    | (go_at_call 47; refine HIX.out.mono ?_; rintro e w1 ⟨hways, x1⟩; have HWY := Lib.hid hways; clear hways; obtain ⟨q, rfl⟩ : ∃ q : Int, e = .returned (.int .i64 q) := (by rcases HWY.out with ⟨k, h1, _⟩ | ⟨h1, _⟩; exact ⟨_, h1⟩; exact ⟨_, h1⟩)))
  have k0' : w1.cell? ⟨d, 0, none⟩ = some (.slice A n c) := by rw [HN.out]; exact (HK.out.below x1).c0
  rcases HWY.out with ⟨k, h1, h2, h3, h4⟩ | ⟨h1, h2⟩
  · obtain rfl : q = (k : Int) := by injection h1 with h1; injection h1
    have H3 := Lib.hid h3
    have H4 := Lib.hid h4
    have dq : decide ((k : Int) < 0) = false := decide_eq_false (by omega)
    clear h1 h3 h4 k0 HWY
    have hw : IntKind.i64.wrap ((i : Int) + (k : Int)) = (i : Int) + (k : Int) := IntWalk.i64_in _ (by omega)
    go_wp2
    go_ret
    refine ⟨i + k, by simp, by omega, by rw [← HN.out]; omega, fun j hj1 hj2 => ?_, fun y hy => ?_, x1⟩
    · obtain ⟨y, hy⟩ := H4.out (j - i) (by omega)
      rw [HD.out, show i + (j - i) = j by omega] at hy
      exact ⟨y, hy⟩
    · rw [← HD.out, H3.out] at hy
      cases hy
  · obtain rfl : q = -1 := by injection h1 with h1; injection h1
    have H2 := Lib.hid h2
    clear h1 h2 k0 HWY
    go_wp2
    go_ret
    refine ⟨n, rfl, hi, by rw [← HN.out]; exact Nat.le_refl _, fun j hj1 hj2 => ?_, fun y hy => ?_, x1⟩
    · obtain ⟨y, hy⟩ := H2.out (j - i) (by omega)
      rw [HD.out, show i + (j - i) = j by omega] at hy
      exact ⟨y, hy⟩
    · rw [List.getElem?_eq_none (by rw [← HN.out]; exact Nat.le_refl _)] at hy
      cases hy
end
end Go.Proofs.YtghbliabmecbcaaDoor

/-
  Each binding's numbers: what a row put in the place of another one leaves; join. Conditions are each theorem's own.
-/
namespace Go.Proofs.YtghbliabmecbcaaDoor
open Go.RowKit Go.Shelf Go.Maps
def putR (R : Int → List Int) (b : Int) (l : List Int) : Int → List Int := fun x => if x = b then l else R x
theorem own_block {w w' : World} {b e s n g l c : Nat} {xs : List Value} (h : w.ownsRow b e s (.slice (some ⟨g, 0, none⟩) l c) n xs) (hg : w'.heap[g]? = w.heap[g]?) : w'.ownsRow b e s (.slice (some ⟨g, 0, none⟩) l c) n xs := by
  refine ⟨h.1, ?_⟩
  rcases h.2 with h1 | ⟨g', cap, cur, hv, hb, hh, rest⟩
  · exact .inl h1
  · refine .inr ⟨g', cap, cur, hv, hb, ?_, rest⟩
    injection hv with e1
    injection e1 with e1
    injection e1 with e1
    rw [← e1] at hh ⊢
    exact hg.trans hh
theorem rdI_own {w : World} {b n c g : Nat} {zs : List Int} (h : w.ownsRow b 3 1 (.slice (some ⟨g, 0, none⟩) n c) n (zs.flatMap clN)) (hn : n = zs.length) : RdI w w.heap.size (some ⟨g, 0, none⟩) zs := fun h0 => by
  obtain ⟨A', c', e, hr, _⟩ := own_rds (cl := clN) (sz := 1) h hn rfl (fun _ _ => rfl)
  injection e with e1
  obtain ⟨b', off, e2, hb, hc⟩ := hr h0
  rw [← e1] at e2
  injection e2 with e2
  injection e2 with e2 e3
  subst e2; subst e3
  refine ⟨g, 0, rfl, hb, fun j hj => ?_⟩
  have h1 := hc j zs[j] (List.getElem?_eq_getElem hj) 0 _ rfl
  rw [Nat.mul_one, Nat.add_zero] at h1
  rw [List.getD_eq_getElem?_getD, List.getElem?_eq_getElem hj, Option.getD_some]
  exact h1
theorem own_posN {w : World} {b n : Nat} {v : Value} {xs : List Value} (h : w.ownsRow b 3 1 v n xs) (hn : 0 < n) : ∃ g c, v = .slice (some ⟨g, 0, none⟩) n c := by
  rcases h.2 with ⟨_, h0⟩ | ⟨g, cap, cur, hv, _⟩
  · omega
  · exact ⟨g, cap, hv⟩
section
variable {w Y Z : World} {B0 bm N : Nat} {F : Int → Sli} {R : Int → List Int} {b : Int}
/-- One binding's row is another one now. -/
theorem Rw.put (h : Rw w B0 F R) {Q : Nat → Prop} (k : Kept Q w Y) (hQ : ∀ i, Q i → ∃ n c, F b = some (i, n, c)) {g c : Nat} {l : List Int} (ho : Y.ownsRow 0 3 1 (.slice (some ⟨g, 0, none⟩) l.length c) l.length (l.flatMap clN)) (hB : B0 ≤ g) (hl : 0 < l.length)
    (hg : (∃ n c, F b = some (g, n, c)) ∨ w.heap.size ≤ g) (hk : Kept (fun i => i = bm) Y Z) (hm : ∃ es clock, Y.heap[bm]? = some (.map es clock)) : Rw Z B0 (putF F b (some (g, l.length, c))) (putR R b l) := by
  obtain ⟨es, clock, hm⟩ := hm
  have hne : ∀ {i : Nat} {cs : Array Value} {ty : TypeId} {fr : Nat × Nat}, Y.heap[i]? = some (.cells cs ty fr) → ¬ i = bm := fun {i cs ty fr} hi e => by rw [e, hm] at hi; cases hi
  have hold : ∀ x g' n' c', x ≠ b → F x = some (g', n', c') → Z.heap[g']? = w.heap[g']? ∧ g' ≠ g := fun x g' n' c' hx hF => by
    obtain ⟨cs, hh⟩ := h.lt x g' n' c' hF
    have h1 : Y.heap[g']? = w.heap[g']? := k.block g' (heap_lt hh) (fun hq => by
      obtain ⟨n2, c2, h2⟩ := hQ g' hq
      exact h.ap x b g' n' c' g' n2 c2 hx hF h2 rfl)
    refine ⟨(hk.block g' (heap_lt (h1.trans hh)) (hne (h1.trans hh))).trans h1, fun e => ?_⟩
    rcases hg with ⟨n2, c2, h2⟩ | h2
    · exact h.ap x b g' n' c' g n2 c2 hx hF h2 e
    · have := heap_lt hh; omega
  obtain ⟨csg, hgg⟩ := own_cells ho
  have hgz : Z.heap[g]? = Y.heap[g]? := hk.block g (heap_lt hgg) (hne hgg)
  refine ⟨fun x hx => ?_, fun x y gx nx cx gy ny cy hxy hFx hFy => ?_, fun x g' n' c' hF => ?_⟩
  · unfold putF putR
    by_cases e : x = b
    · rw [if_pos e, if_pos e]
      exact .inr ⟨g, c, rfl, own_block ho hgz, hB, hl⟩
    · rw [if_neg e, if_neg e]
      rcases h.row x hx with h1 | ⟨g', c', h1, h2, h3, h4⟩
      · exact .inl h1
      · exact .inr ⟨g', c', h1, own_block h2 (hold x _ _ _ e h1).1, h3, h4⟩
  · unfold putF at hFx hFy
    by_cases e : x = b
    · rw [if_pos e] at hFx
      rw [if_neg (fun e2 => hxy (e.trans e2.symm))] at hFy
      injection hFx with hFx
      injection hFx with e3
      rw [← e3]
      exact ((hold y _ _ _ (fun e2 => hxy (e.trans e2.symm)) hFy).2).symm
    · rw [if_neg e] at hFx
      by_cases e2 : y = b
      · rw [if_pos e2] at hFy
        injection hFy with hFy
        injection hFy with e3
        rw [← e3]
        exact (hold x _ _ _ e hFx).2
      · rw [if_neg e2] at hFy
        exact h.ap x y _ _ _ _ _ _ hxy hFx hFy
  · unfold putF at hF
    by_cases e : x = b
    · rw [if_pos e] at hF
      injection hF with hF
      injection hF with e3
      rw [← e3]
      exact ⟨csg, hgz.trans hgg⟩
    · rw [if_neg e] at hF
      obtain ⟨cs, hh⟩ := h.lt x g' n' c' hF
      exact ⟨cs, (hold x _ _ _ e hF).1.trans hh⟩
/-- One binding has none any more. -/
theorem Rw.del (h : Rw w B0 F R) (hk : Kept (fun i => i = bm) w Z) (hm : ∃ es clock, w.heap[bm]? = some (.map es clock)) : Rw Z B0 (putF F b none) (putR R b []) := by
  obtain ⟨es, clock, hm⟩ := hm
  have hne : ∀ {i : Nat} {cs : Array Value} {ty : TypeId} {fr : Nat × Nat}, w.heap[i]? = some (.cells cs ty fr) → ¬ i = bm := fun {i cs ty fr} hi e => by rw [e, hm] at hi; cases hi
  refine ⟨fun x hx => ?_, fun x y gx nx cx gy ny cy hxy hFx hFy => ?_, fun x g' n' c' hF => ?_⟩
  · unfold putF putR
    by_cases e : x = b
    · rw [if_pos e, if_pos e]
      exact .inl ⟨rfl, rfl⟩
    · rw [if_neg e, if_neg e]
      rcases h.row x hx with h1 | ⟨g', c', h1, h2, h3, h4⟩
      · exact .inl h1
      · obtain ⟨cs, hh⟩ := h.lt x _ _ _ h1
        exact .inr ⟨g', c', h1, own_block h2 (hk.block g' (heap_lt hh) (hne hh)), h3, h4⟩
  · unfold putF at hFx hFy
    by_cases e : x = b
    · rw [if_pos e] at hFx; cases hFx
    · rw [if_neg e] at hFx
      by_cases e2 : y = b
      · rw [if_pos e2] at hFy; cases hFy
      · rw [if_neg e2] at hFy
        exact h.ap x y _ _ _ _ _ _ hxy hFx hFy
  · unfold putF at hF
    by_cases e : x = b
    · rw [if_pos e] at hF; cases hF
    · rw [if_neg e] at hF
      obtain ⟨cs, hh⟩ := h.lt x g' n' c' hF
      exact ⟨cs, (hk.block g' (heap_lt hh) (hne hh)).trans hh⟩
end
/-- What is written where a binding's numbers change. -/
def JQ (F : Int → Sli) (b : Int) : Nat → Prop := fun i => ∃ n c, F b = some (i, n, c)
theorem slV_own {o : Sli} {i : Nat} (h : (slV o).ownBlock = some i) : ∃ n c, o = some (i, n, c) := by
  cases o with
  | none => cases h
  | some x =>
    obtain ⟨g, n, c⟩ := x
    have h1 : some g = some i := h
    injection h1 with h1
    exact ⟨n, c, by rw [h1]⟩
/-- What a call of join, or of leave, leaves. -/
def JoinO (w : World) (B0 bm N : Nat) (R' : Int → List Int) (w' : World) : Prop :=
  Mp w' B0 bm (N + 1) R' ∧ ∃ Q : Nat → Prop, Kept (fun i => i = bm ∨ Q i) w w' ∧ Only w Q (fun u => u = 3) ∧ ∀ i, Q i → B0 ≤ i
section
variable {w : World} {B0 d bm N : Nat} {R : Int → List Int}
/-- Insert, where the slice is one of the map's. -/
theorem seinsert_v {o : Sli} {i vb : Nat} {l : List Int} {x : Int} {n : Nat} (own : w.ownsRow 0 3 1 (slV o) l.length (l.flatMap clN) ∧ (o = none ∧ l = [] ∨ 0 < l.length ∧ ∃ g c, o = some (g, l.length, c)) ∧ n = l.length) (hi : i ≤ l.length) (hn : l.length ≤ 100000)
    (hv : w.heap[vb]? = some (.cells (clN x).toArray 3 (0, 0))) (hne : (slV o).ownBlock ≠ some vb) :
    Calls Tryd.prog 46 #[slV o, .int .i64 (i : Int), .slice (some ⟨vb, 0, none⟩) 1 1] w fun e w' =>
      ∃ g c, e = .returned (.slice (some ⟨g, 0, none⟩) (n + 1) c) ∧ w'.ownsRow 0 3 1 (.slice (some ⟨g, 0, none⟩) (n + 1) c) (n + 1) ((insI l i x).flatMap clN) ∧ Kept (fun k => (slV o).ownBlock = some k) w w' ∧
        ((slV o).ownBlock = some g ∨ g = w.heap.size) := by
  obtain ⟨own, ho, rfl⟩ := own
  obtain ⟨A, c, hA, hnil⟩ : ∃ A c, slV o = .slice A l.length c ∧ (Value.slice A l.length c = .slice none 0 0 ∨ 0 < l.length) := by
    rcases ho with ⟨rfl, rfl⟩ | ⟨h0, g, c, rfl⟩
    · exact ⟨none, 0, rfl, .inl rfl⟩
    · exact ⟨some ⟨g, 0, none⟩, c, rfl, .inr h0⟩
  rw [hA] at own hne ⊢
  refine (seinsert A c i vb l x w own hnil hi hn hv hne).mono ?_
  rintro e w' ⟨A', c', rfl, h1, h2, h3⟩
  obtain ⟨g, c2, e2⟩ := own_posN h1 (Nat.succ_pos _)
  injection e2 with e3 _ e4
  subst e3; subst e4
  refine ⟨g, _, rfl, h1, h2, ?_⟩
  rcases h3 with h3 | h3
  · exact .inl h3.symm
  · injection h3 with h3; exact .inr h3
set_option maxRecDepth 100000 in
set_option maxHeartbeats 2000000 in
theorem sejoin (h : Mp w B0 bm N R) (k2 : w.cell? ⟨d, 2, none⟩ = some (.map (some bm))) (hd : ∃ cs, w.heap[d]? = some (.cells cs 56 (0, 0))) {b : Int} (hb : wfQ b) (id : Nat) (hs : (R b).Pairwise (· < ·)) (hl : (R b).length ≤ 100000) (hN : N < maxLen) (hB : B0 ≤ w.heap.size) :
    Calls Tryd.prog 27 #[.pointer (some ⟨d, 0, none⟩), .int .i64 b, .int .i64 (id : Int)] w fun e w' => e = .returned (.tuple #[]) ∧ ∃ k, AtI (R b) (id : Int) k ∧ JoinO w B0 bm N (putR R b (insI (R b) k (id : Int))) w' := by
  obtain ⟨hz, F, hm, hr⟩ := h
  obtain ⟨ids, hids⟩ : ∃ ids, ids = R b := ⟨_, rfl⟩
  obtain ⟨n, hn⟩ : ∃ n, n = ids.length := ⟨_, rfl⟩
  rw [← hids] at hs hl ⊢
  have HO : Hid (∀ X, Below w.heap.size w X → X.ownsRow 0 3 1 (slV (F b)) ids.length (ids.flatMap clN) ∧ (F b = none ∧ ids = [] ∨ 0 < ids.length ∧ ∃ g c, F b = some (g, ids.length, c)) ∧ n = ids.length) := Lib.hid (fun X hX => by
    rcases hr.row b hb with ⟨h1, h2⟩ | ⟨g, c, h1, h2, h3, h4⟩
    · rw [h1, hids, h2]; exact ⟨World.ownsRow_nil _ _ _ _, .inl ⟨rfl, rfl⟩, by rw [hn, hids, h2]⟩
    · rw [h1, hids]
      obtain ⟨cs, hh⟩ := own_cells h2
      exact ⟨own_block h2 (hX.block g (heap_lt hh)), .inr ⟨h4, g, c, rfl⟩, by rw [hn, hids]⟩)
  have HRD : Hid (∃ A c, slV (F b) = .slice A n c ∧ RdI w w.heap.size A ids) := Lib.hid (by
    rcases hr.row b hb with ⟨h1, h2⟩ | ⟨g, c, h1, h2, h3, h4⟩
    · exact ⟨none, 0, by rw [h1, hn, hids, h2]; rfl, fun h0 => by rw [hids, h2] at h0; simp at h0⟩
    · exact ⟨some ⟨g, 0, none⟩, c, by rw [h1, hn, hids]; rfl, by rw [hids]; exact rdI_own h2 rfl⟩)
  have HNB : Hid (∀ i, (slV (F b)).ownBlock = some i → i < w.heap.size) := Lib.hid (fun i hi => by
    obtain ⟨n', c', h1⟩ := slV_own hi
    obtain ⟨cs, hh⟩ := hr.lt b _ _ _ h1
    exact heap_lt hh)
  have HMN : Hid (¬ (slV (F b)).ownBlock = some bm) := Lib.hid (fun hi => by
    obtain ⟨n', c', h1⟩ := slV_own hi
    obtain ⟨cs, hh⟩ := hr.lt b _ _ _ h1
    obtain ⟨es, clock, h2⟩ := hm.is
    rw [h2] at hh; cases hh)
  have HC : Hid (∀ U, Kept (fun i => i = bm ∨ JQ F b i) w U → U.cell? ⟨d, 2, none⟩ = some (.map (some bm))) := Lib.hid (fun U hU => by
    obtain ⟨cs, hdd⟩ := hd
    refine (World.cell?_of_block (hU.block d (heap_lt hdd) ?_)).trans k2
    rintro (e | ⟨n', c', h1⟩)
    · obtain ⟨es, clock, h2⟩ := hm.is
      rw [e, h2] at hdd; cases hdd
    · obtain ⟨cs', hh⟩ := hr.lt b _ _ _ h1
      exact heap_ty hdd hh (nat_ne (by kernel_rfl)) rfl)
  have HMF := Lib.hid hm
  have HRW := Lib.hid hr
  have HNM := Lib.hid hN
  have HB := Lib.hid hb
  have HIN := Lib.hid hl
  have HS := Lib.hid hs
  have HN := Lib.hid hn
  have HID := Lib.hid hids
  have HLK := Lib.hid (hm.look hb)
  have HRS := Lib.hid (show n ≤ 1000000 by rw [hn]; omega)
  obtain ⟨A, c, hA, hrd⟩ := HRD.out
  rw [hA] at HLK
  have HA := Lib.hid hA
  have HSR := Lib.hid (csearch A c n ids (id : Int) w.heap.size w hrd hn HRS.out hs)
  clear hm hr hN hb hl hs hn hids hd hA hrd HRD
  go_enter Tryd.func27, Tryd.ntmps27
  go_upto_region 2 with (first
    | ((with_reducible show wpList _ _ _ (Oper.mk _ (Op.load 54 _) _ _ _ _ :: _) _ _); refine wpList_val rfl (run_load_mq rfl rfl k2) ?_)
    | ((with_reducible show wpList _ _ _ (Oper.mk _ (Op.lookup _ _ _ _) _ _ _ _ :: _) _ _); refine wpList_val rfl (run_lookS rfl rfl rfl HLK.out) ?_)
    | (go_at_call 45; refine HSR.out.mono ?_; rintro e w1 ⟨k, rfl, hat, rfl⟩; have HAT := Lib.hid hat; clear hat))
  rw [← HA.out]
  refine wp_region_held_drew (S := fun U => Kept (fun i => i = bm ∨ JQ F b i) w U) (by kernel_rfl) (Kept.drew w) (fun hS => ?_)
  refine held_pure (i := 0) (oi := ⟨some 21, _, _, _, _, _⟩) rfl (by kernel_rfl) (by kernel_rfl) (by kernel_rfl) (fun _ _ _ h => h) (by rfl) (v := ?_) (fun w hSw => ?_) hS (fun hS => ?_)
  rotate_left
  · go_simp; try with_reducible rfl
  try go_frame
  refine held_pure (i := 1) (oi := ⟨some 22, _, _, _, _, _⟩) rfl (by kernel_rfl) (by kernel_rfl) (by kernel_rfl) (fun _ _ _ h => h) (by rfl) (v := ?_) (fun w hSw => ?_) hS (fun hS => ?_)
  rotate_left
  · go_simp; try with_reducible rfl
  try go_frame
  refine held_pure (i := 2) (oi := ⟨some 23, _, _, _, _, _⟩) rfl (by kernel_rfl) (by kernel_rfl) (by kernel_rfl) (fun _ _ _ h => h) (by rfl) (v := ?_) (fun w hSw => ?_) hS (fun hS => ?_)
  rotate_left
  · go_simp; try with_reducible rfl
  try go_frame
  refine held_pure (i := 3) (oi := ⟨some 24, _, _, _, _, _⟩) rfl (by kernel_rfl) (by kernel_rfl) (by kernel_rfl) (fun _ _ _ h => h) (by rfl) (fun w hSw => run_load_mq rfl rfl (HC.out _ hSw)) hS (fun hS => ?_)
  try go_frame
  refine held_pure (i := 4) (oi := ⟨some 25, _, _, _, _, _⟩) rfl (by kernel_rfl) (by kernel_rfl) (by kernel_rfl) (fun _ _ _ h => h) (by rfl) (v := ?_) (fun w hSw => ?_) hS (fun hS => ?_)
  rotate_left
  · go_simp; try with_reducible rfl
  try go_frame
  refine held_pure (i := 5) (oi := ⟨some 26, _, _, _, _, _⟩) rfl (by kernel_rfl) (by kernel_rfl) (by kernel_rfl) (fun _ _ _ h => h) (by rfl) (v := ?_) (fun w hSw => ?_) hS (fun hS => ?_)
  rotate_left
  · go_simp; try with_reducible rfl
  try go_frame
  refine held_pure (i := 6) (oi := ⟨some 27, _, _, _, _, _⟩) rfl (by kernel_rfl) (by kernel_rfl) (by kernel_rfl) (fun _ _ _ h => h) (by rfl) (v := ?_) (fun w hSw => ?_) hS (fun hS => ?_)
  rotate_left
  · go_simp; try with_reducible rfl
  try go_frame
  refine held_pure (i := 7) (oi := ⟨some 28, _, _, _, _, _⟩) rfl (by kernel_rfl) (by kernel_rfl) (by kernel_rfl) (fun _ _ _ h => h) (by rfl) (v := ?_) (fun w hSw => ?_) hS (fun hS => ?_)
  rotate_left
  · go_simp; try with_reducible rfl
  try go_frame
  refine wpAnyH_ready (rs := [8]) (by kernel_rfl) (by simp) (AllReadyH.cons (o := ⟨some 29, _, _, _, _, _⟩) rfl (fun K hK => ?_) AllReadyH.nil)
  rw [if_pos (by rfl)]
  go_simp
  refine hK.out _ _ (Kept.of_below (((Below.refl w.heap.size w).alloc (Nat.le_refl _) _).drew)) (fun hS => ?_)
  clear hK K
  have bX : Below w.heap.size w (w.alloc (.cells #[.int .i64 (id : Int)] 3)).drew := ((Below.refl w.heap.size w).alloc (Nat.le_refl _) _).drew
  have hvX : ((w.alloc (.cells #[.int .i64 (id : Int)] 3)).drew).heap[w.heap.size]? = some (.cells (clN (id : Int)).toArray 3 (0, 0)) := World.alloc_heap_new w _
  generalize (w.alloc (.cells #[.int .i64 (id : Int)] 3)).drew = X at *
  try go_frame
  refine wpAnyH_ready (rs := [9]) (by kernel_rfl) (by simp) (AllReadyH.cons (o := ⟨some 30, _, _, _, _, _⟩) rfl (fun K hK => ?_) AllReadyH.nil)
  rw [if_pos (by rfl)]
  go_simp
  refine (seinsert_v (w := X) (o := F b) (HO.out X bX) HAT.out.le HIN.out hvX (fun e => by have h9 := HNB.out _ e; omega)).mono ?_
  rintro e Y ⟨gI, cI, rfl, hrow, hkp, hob⟩
  have HROW := Lib.hid hrow
  have HKY := Lib.hid ((Kept.of_below bX).trans hkp (fun _ _ e => e))
  have HOB := Lib.hid hob
  have HMY : Hid (Mq Y bm N F) := Lib.hid (HMF.out.of_block ((HKY.out.block bm HMF.out.lt HMN.out)))
  clear hrow hkp hob
  show K _ _
  refine hK.out _ _ (HKY.out.mono (fun i _ e => .inr (slV_own e))) (fun hS => ?_)
  clear hK K
  try go_frame
  refine wpAnyH_ready (rs := [10]) (by kernel_rfl) (by simp) (AllReadyH.cons (o := ⟨none, _, _, _, _, _⟩) rfl (fun K hK => ?_) AllReadyH.nil)
  rw [if_pos (by rfl)]
  obtain ⟨Z, hrun, hmz, hgz⟩ := HMY.out.put HNM.out HB.out (some (gI, n + 1, cI))
  have kZ := Kept.of_grown hgz
  refine updS_wp rfl rfl rfl rfl hrun ?_
  refine hK.out _ _ (hS.trans (kZ.mono (T := fun i => i = bm ∨ JQ F b i) (fun i _ e => .inl (by injection e))) (fun _ _ e => e)) (fun hS => ?_)
  clear hK K hrun
  try go_frame
  refine wpAnyH_done (by kernel_rfl) ?_ _
  go_wp2_with fail
  refine bodyPost_end (results_none rfl _ _ _) rfl ⟨rfl, k, HAT.out, ?_⟩
  have hil : (insI ids k (id : Int)).length = n + 1 := by
    unfold insI
    have := HAT.out.le
    rw [List.length_append, List.length_cons, List.length_take, List.length_drop, HN.out]
    omega
  have hrow2 := HROW.out
  rw [← hil] at hrow2 hmz
  have hgB : B0 ≤ gI := by
    rcases HOB.out with h9 | h9
    · obtain ⟨n', c', h1⟩ := slV_own h9
      rcases HRW.out.row b HB.out with ⟨h2, _⟩ | ⟨g, c, h2, _, h3, _⟩
      · rw [h1] at h2; cases h2
      · rw [h1] at h2; injection h2 with h2; injection h2 with h2; rw [h2]; exact h3
    · rw [h9]; exact Nat.le_trans hB bX.size
  refine ⟨⟨hz, _, hmz, HRW.out.put HKY.out (fun i hi => slV_own hi) hrow2 hgB (by rw [hil]; omega) ?_ (kZ.mono (fun i _ e => by injection e)) HMY.out.is⟩, JQ F b, hS, fun i hi => ?_, fun i hi => ?_⟩
  · rcases HOB.out with h9 | h9
    · exact .inl (slV_own h9)
    · exact .inr (by rw [h9]; exact bX.size)
  · obtain ⟨n', c', h1⟩ := hi
    obtain ⟨cs, hh⟩ := HRW.out.lt b _ _ _ h1
    exact .inl ⟨cs, _, hh, rfl⟩
  · obtain ⟨n', c', h1⟩ := hi
    rcases HRW.out.row b HB.out with ⟨h2, _⟩ | ⟨g, c, h2, _, h3, _⟩
    · rw [h1] at h2; cases h2
    · rw [h1] at h2; injection h2 with h2; injection h2 with h2; rw [h2]; exact h3
end
end Go.Proofs.YtghbliabmecbcaaDoor

/-
  Contracts of Go's library at this program, out of the library's own theorems (laid by program). Conditions are each theorem's own.
-/
namespace Go.Proofs
open Go.Shelf
def Tryd.laysNm223_ren : Go.Shelf.Ren := ⟨fun | 23 => 50 | n => n, fun | 22 => 79 | 3 => 3 | 4 => 4 | 0 => 0 | n => n, fun | n => n⟩
theorem Tryd.laysNm223 : Go.Proofs.Lays2.n23 Tryd.prog Tryd.laysNm223_ren := {
  mixed := by kernel_rfl
  f23 := Tryd.func50.trans (congrArg some (by kernel_rfl))
  t0 := Tryd.underlying0
  a0 := Tryd.isAgg0
  z0 := Tryd.sizeOf0
  v0 := Tryd.zeroValue0
  t3 := Tryd.underlying3
  a3 := Tryd.isAgg3
  z3 := Tryd.sizeOf3
  v3 := Tryd.zeroValue3
  t4 := Tryd.underlying4
  a4 := Tryd.isAgg4
  z4 := Tryd.sizeOf4
  v4 := Tryd.zeroValue4
  t22 := Tryd.underlying79
  a22 := Tryd.isAgg79
  z22 := Tryd.sizeOf79
  v22 := Tryd.zeroValue79
  i3 := by kernel_rfl }
open Go.RowKit Go.Lib Go.Sort in
theorem Tryd.slices_Delete_int_cells (b off n c i j : Nat) (zs : List Int) (w : World) (hz : n ≤ zs.length) (hcap : n ≤ c) (hm : c ≤ 9223372036854775807) (hij : i ≤ j) (hj : j ≤ n) (hc : ∀ j, j < zs.length → w.cell? ⟨b, off + j, none⟩ = some (.int .i64 (zs.getD j 0))) (hf : ∀ j, j < n → w.frozen? ⟨b, off + j, none⟩ = false) :
    Calls Tryd.prog 50 #[.slice (some ⟨b, off, none⟩) n c, .int .i64 i, .int .i64 j] w fun e w' => e = .returned (.slice (some ⟨b, off, none⟩) (n - (j - i)) c) ∧ ∃ q, w' = (w.drewN q).setCells b off (((zs.take n).take i ++ (zs.take n).drop j ++ List.replicate (j - i) 0).map (Value.int .i64)) := Any.slices_Delete_int_cells Tryd.laysNm223 b off n c i j zs w hz hcap hm hij hj hc hf
end Go.Proofs

/-
  leave of layer 24's code: a number taken out of its binding's. Conditions are each theorem's own.
-/
namespace Go.Proofs.YtghbliabmecbcaaDoor
open Go.RowKit Go.Shelf Go.Maps
theorem flat_clN (l : List Int) : l.flatMap clN = l.map (Value.int .i64) := by
  induction l with
  | nil => rfl
  | cons x l ih => rw [List.flatMap_cons, List.map_cons, ih]; rfl
theorem own_delN {w : World} {g n c k q : Nat} {ids : List Int} (h : w.ownsRow 0 3 1 (.slice (some ⟨g, 0, none⟩) n c) n (ids.flatMap clN)) (hn : n = ids.length) (hk : k < n) :
    ((w.drewN q).setCells g 0 ((ids.take k ++ ids.drop (k + 1) ++ List.replicate (k + 1 - k) 0).map (Value.int .i64))).ownsRow 0 3 1 (.slice (some ⟨g, 0, none⟩) (n - (k + 1 - k)) c) (n - (k + 1 - k)) ((ids.eraseIdx k).flatMap clN) := by
  have hkk : k + 1 - k = 1 := by omega
  rw [hkk]
  rcases h.2 with ⟨hv, _⟩ | ⟨g', cap, cur, hv, hb, hh, hle, hm, hs, ht⟩
  · cases hv
  · injection hv with e1 _ e3
    injection e1 with e1
    injection e1 with e1
    subst e1; subst e3
    have hel : (ids.eraseIdx k).length = n - 1 := by rw [List.length_eraseIdx, if_pos (by omega), hn]
    have hw : (w.drewN q).heap[g]? = some (.cells cur 3 (0, 0)) := hh
    have hvl : ((ids.take k ++ ids.drop (k + 1) ++ List.replicate 1 (0 : Int)).map (Value.int .i64)).length = n := by simp; omega
    refine ⟨by rw [flat_clN, List.length_map, hel, Nat.mul_one], .inr ⟨g, c, _, rfl, Nat.zero_le _, heap_setCellsL g _ 0 _ cur hw, by omega, hm, by rw [List.size_toArray, splL_len, Array.length_toList, hs], ?_⟩⟩
    rw [Nat.mul_one, List.toList_toArray, flat_clN]
    apply List.ext_getElem?
    intro j
    rw [List.getElem?_take]
    by_cases hj : j < n - 1
    · rw [if_pos hj, splL_get _ _ _ _ (by rw [hvl, Array.length_toList, hs]; omega), hvl, if_pos ⟨Nat.zero_le _, by omega⟩, Nat.sub_zero, List.getElem?_map, List.getElem?_map, List.eraseIdx_eq_take_drop_succ, List.getElem?_append_left (by simp; omega)]
    · rw [if_neg hj, List.getElem?_eq_none (by rw [List.length_map, hel]; omega)]
theorem one_mem {ids : List Int} {x : Int} (h1 : ids.length = 1) (hx : x ∈ ids) : ids = [x] := by
  match ids, h1, hx with
  | [y], _, hx => rw [List.mem_singleton.1 hx]
theorem at_in {zs : List Int} {x : Int} {k : Nat} (h : AtI zs x k) (hs : zs.Pairwise (· < ·)) (hx : x ∈ zs) : zs[k]? = some x := by
  rw [← List.take_append_drop k zs] at hx
  rcases List.mem_append.1 hx with h1 | h1
  · have := h.lo x h1; omega
  · obtain ⟨i, hi⟩ := List.mem_iff_getElem?.1 h1
    rw [List.getElem?_drop] at hi
    obtain ⟨hlt, _⟩ := List.getElem?_eq_some_iff.1 hi
    obtain ⟨y, hy⟩ : ∃ y, zs[k]? = some y := ⟨_, List.getElem?_eq_getElem (by omega)⟩
    have h2 := srt_get hs (by omega) hy hi
    have h3 := h.hi y (by
      have : (zs.drop k)[0]? = some y := by rw [List.getElem?_drop]; exact hy
      exact List.mem_of_getElem? this)
    rw [hy, show y = x by omega]
theorem wpList_delS {P : Program} {w : World} {ops : Array Oper} {rest : List Oper} {o : Oper} {a : Act} {Q : Exit → Act → World → Prop} (hg : o.guard = none) {m x : Operand} {t k : TypeId} (hop : o.op = Op.call { callee := Callee.builtin Builtin.delete, args := #[m, x], argTypes := #[t, k] })
    {u v : Value} (hm : a.eval m = u) (hx : a.eval x = v) {G : World → Prop} (hr : ∃ w', (Builtin.delete_ #[t, k] o.type #[u, v]).run P w = .ok (.tuple #[]) w' ∧ G w')
    (hK : ∀ w', G w' → wpList P ops Q rest (a.put o.dst (.tuple #[])) w') : wpList P ops Q (o :: rest) a w := by
  refine wpList_plain hg fun K' hK' => ?_
  obtain ⟨w', hrun, hG⟩ := hr
  unfold Oper.wp
  simp [execOp, hop, resolve, invoke, builtin, hm, hx, hrun, Result.andThen]
  exact hK' _ _ (hK w' hG)
section
variable {w : World} {B0 d bm N : Nat} {R : Int → List Int}
set_option maxRecDepth 100000 in
set_option maxHeartbeats 2000000 in
theorem seleave (h : Mp w B0 bm N R) (k2 : w.cell? ⟨d, 2, none⟩ = some (.map (some bm))) (hd : ∃ cs, w.heap[d]? = some (.cells cs 56 (0, 0))) {b : Int} (hb : wfQ b) (id : Nat) (hs : (R b).Pairwise (· < ·)) (hi : (id : Int) ∈ R b) (hl : (R b).length ≤ 100000) (hN : N < maxLen) :
    Calls Tryd.prog 31 #[.pointer (some ⟨d, 0, none⟩), .int .i64 b, .int .i64 (id : Int)] w fun e w' => e = .returned (.tuple #[]) ∧ ∃ k, (R b)[k]? = some (id : Int) ∧ JoinO w B0 bm N (putR R b ((R b).eraseIdx k)) w' := by
  obtain ⟨hz, F, hm, hr⟩ := h
  obtain ⟨ids, hids⟩ : ∃ ids, ids = R b := ⟨_, rfl⟩
  obtain ⟨n, hn⟩ : ∃ n, n = ids.length := ⟨_, rfl⟩
  rw [← hids] at hs hl hi ⊢
  obtain ⟨g, c, hF, hrow, hgB, hpos⟩ : ∃ g c, F b = some (g, n, c) ∧ w.ownsRow 0 3 1 (.slice (some ⟨g, 0, none⟩) n c) n (ids.flatMap clN) ∧ B0 ≤ g ∧ 0 < n := by
    rcases hr.row b hb with ⟨h1, h2⟩ | ⟨g, c, h1, h2, h3, h4⟩
    · rw [hids, h2] at hi; cases hi
    · rw [← hids, ← hn] at h1 h2 h4
      exact ⟨g, c, h1, h2, h3, h4⟩
  obtain ⟨csg, hgg⟩ := own_cells hrow
  obtain ⟨es, clock, hbm⟩ := hm.is
  have HMN : Hid (¬ bm = g) := Lib.hid (fun e => by rw [← e, hbm] at hgg; cases hgg)
  have HGQ : Hid (∀ i, i = g → JQ F b i) := Lib.hid (fun i e => ⟨n, c, by rw [e]; exact hF⟩)
  have HQG : Hid (∀ i, JQ F b i → i = g) := Lib.hid (fun i ⟨n', c', h1⟩ => by rw [hF] at h1; injection h1 with h1; injection h1 with h1; exact h1.symm)
  have HC : Hid (∀ U, Kept (fun i => i = bm ∨ JQ F b i) w U → U.cell? ⟨d, 2, none⟩ = some (.map (some bm))) := Lib.hid (fun U hU => by
    obtain ⟨cs, hdd⟩ := hd
    refine (World.cell?_of_block (hU.block d (heap_lt hdd) ?_)).trans k2
    rintro (e | e)
    · rw [e, hbm] at hdd; cases hdd
    · exact heap_ty hdd hgg (nat_ne (by kernel_rfl)) (HQG.out d e))
  have HMF := Lib.hid hm
  have HRW := Lib.hid hr
  have HNM := Lib.hid hN
  have HB := Lib.hid hb
  have HN := Lib.hid hn
  have HID := Lib.hid hids
  have HLK := Lib.hid (show (Instr.lookup 54 (.map (some bm)) (.int .i64 b) false).run Tryd.prog w = .ok (.slice (some ⟨g, 0, none⟩) n c) w by have := hm.look hb; rw [hF] at this; exact this)
  have HDE := Lib.hid (fun ty => hm.del hb ty)
  have hrd := rdI_own hrow hn
  have HOW := Lib.hid hrow
  have HRS := Lib.hid (show n ≤ 1000000 by rw [hn]; omega)
  have HII := Lib.hid hi
  have HSS := Lib.hid hs
  have HGB := Lib.hid hgB
  have HGG : Hid (∃ cs, w.heap[g]? = some (.cells cs 3 (0, 0))) := Lib.hid ⟨csg, hgg⟩
  have HSR := Lib.hid (csearch (some ⟨g, 0, none⟩) c n ids (id : Int) w.heap.size w hrd hn HRS.out hs)
  have HDL0 : Hid (∀ k, k < n → ∀ X, X = w.drew → Calls Tryd.prog 50 #[.slice (some ⟨g, 0, none⟩) n c, .int .i64 (k : Int), .int .i64 ((k : Int) + 1)] X fun e w' => e = .returned (.slice (some ⟨g, 0, none⟩) (n - (k + 1 - k)) c) ∧
      w'.ownsRow 0 3 1 (.slice (some ⟨g, 0, none⟩) (n - (k + 1 - k)) c) (n - (k + 1 - k)) ((ids.eraseIdx k).flatMap clN) ∧ Kept (fun i => i = g) X w') := Lib.hid (fun k hk X hX => by
    subst hX
    have hcap : n ≤ c ∧ c ≤ maxLen := by
      rcases hrow.2 with ⟨hv, _⟩ | ⟨g', cap, cur, hv, _, _, hle, hm, _⟩
      · cases hv
      · injection hv with _ _ e3; rw [e3]; exact ⟨hle, hm⟩
    have hc : ∀ j, j < ids.length → w.drew.cell? ⟨g, 0 + j, none⟩ = some (.int .i64 (ids.getD j 0)) := fun j hj => by
      obtain ⟨b', off, e, _, h1⟩ := hrd (by omega)
      injection e with e
      injection e with e e2
      subst e; subst e2
      exact h1 j hj
    have h9 := Tryd.slices_Delete_int_cells g 0 n c k (k + 1) ids w.drew (by omega) hcap.1 (by have := hcap.2; unfold maxLen at this; omega) (by omega) (by omega) hc (fun j _ => heap_frozen (W := w.drew) hgg _)
    rw [show (((k + 1 : Nat)) : Int) = (k : Int) + 1 by omega] at h9
    refine h9.mono ?_
    rintro e w' ⟨rfl, q, rfl⟩
    have et : ids.take n = ids := List.take_of_length_le (by omega)
    rw [et]
    exact ⟨rfl, own_delN (w := w.drew) hrow hn hk, (show Kept (fun i => i = g) w.drew (w.drew.drewN q) from ⟨rfl, rfl, rfl, Nat.le_refl _, fun _ _ _ => rfl⟩).trans (Kept.setCells g _ 0 _) (fun _ _ e => e)⟩)
  clear hm hr hN hb hl hs hn hids hd hF hgB hgg hbm hrd hi hrow csg
  by_cases h1 : n = 1
  · have hd1 : ((n : Int) == 1) = true := by simp; omega
    have he1 := Lib.hid (one_mem (by rw [← HN.out]; exact h1) HII.out)
    clear hpos
    go_enter Tryd.func31, Tryd.ntmps31
    go_wp2_with (first
      | ((with_reducible show wpList _ _ _ (Oper.mk _ (Op.load 54 _) _ _ _ _ :: _) _ _); refine wpList_val rfl (run_load_mq rfl rfl k2) ?_)
      | ((with_reducible show wpList _ _ _ (Oper.mk _ (Op.lookup _ _ _ _) _ _ _ _ :: _) _ _); refine wpList_val rfl (run_lookS rfl rfl rfl HLK.out) ?_)
      | (at_delete; refine wpList_delS rfl rfl rfl rfl (HDE.out _) ?_; rintro Z ⟨hmz, hkz⟩))
    refine bodyPost_ret (results_none rfl _ _ _) rfl ⟨rfl, 0, by rw [he1.out]; rfl, ?_⟩
    refine ⟨⟨hz, _, hmz.mono (Nat.le_succ _), ?_⟩, fun _ => False, hkz.mono (fun i _ e => .inl e), Only.none_, fun i hi => hi.elim⟩
    rw [he1.out]
    exact HRW.out.del hkz HMF.out.is
  · have hd1 : ((n : Int) == 1) = false := by simp; omega
    go_enter Tryd.func31, Tryd.ntmps31
    go_upto_region 4 with (first
      | ((with_reducible show wpList _ _ _ (Oper.mk _ (Op.load 54 _) _ _ _ _ :: _) _ _); refine wpList_val rfl (run_load_mq rfl rfl k2) ?_)
      | ((with_reducible show wpList _ _ _ (Oper.mk _ (Op.lookup _ _ _ _) _ _ _ _ :: _) _ _); refine wpList_val rfl (run_lookS rfl rfl rfl HLK.out) ?_)
      | (go_at_call 45; refine HSR.out.mono ?_; rintro e w1 ⟨k, rfl, hat, rfl⟩; have HAT := Lib.hid hat; clear hat))
    have HKI := Lib.hid (at_in HAT.out HSS.out HII.out)
    have hkn : k < n := by have := (List.getElem?_eq_some_iff.1 HKI.out).1; rw [HN.out]; exact this
    have HDL := Lib.hid (HDL0.out k hkn)
    have hw1 : IntKind.i64.wrap ((k : Int) + 1) = (k : Int) + 1 := IntWalk.i64_in _ (by have := HRS.out; omega)
    refine wp_region_held_drew (S := fun U => Kept (fun i => i = bm ∨ JQ F b i) w U) (by kernel_rfl) (Kept.drew w) (fun hS => ?_)
    refine held_pure (i := 0) (oi := ⟨some 29, _, _, _, _, _⟩) rfl (by kernel_rfl) (by kernel_rfl) (by kernel_rfl) (fun _ _ _ h => h) (by rfl) (v := ?_) (fun w hSw => ?_) hS (fun hS => ?_)
    rotate_left
    · go_simp; try with_reducible rfl
    try go_frame
    refine held_pure (i := 1) (oi := ⟨some 30, _, _, _, _, _⟩) rfl (by kernel_rfl) (by kernel_rfl) (by kernel_rfl) (fun _ _ _ h => h) (by rfl) (v := ?_) (fun w hSw => ?_) hS (fun hS => ?_)
    rotate_left
    · go_simp; try with_reducible rfl
    try go_frame
    refine held_pure (i := 2) (oi := ⟨some 31, _, _, _, _, _⟩) rfl (by kernel_rfl) (by kernel_rfl) (by kernel_rfl) (fun _ _ _ h => h) (by rfl) (v := ?_) (fun w hSw => ?_) hS (fun hS => ?_)
    rotate_left
    · go_simp; try with_reducible rfl
    try go_frame
    refine held_pure (i := 3) (oi := ⟨some 32, _, _, _, _, _⟩) rfl (by kernel_rfl) (by kernel_rfl) (by kernel_rfl) (fun _ _ _ h => h) (by rfl) (fun w hSw => run_load_mq rfl rfl (HC.out _ hSw)) hS (fun hS => ?_)
    try go_frame
    refine held_pure (i := 4) (oi := ⟨some 33, _, _, _, _, _⟩) rfl (by kernel_rfl) (by kernel_rfl) (by kernel_rfl) (fun _ _ _ h => h) (by rfl) (v := ?_) (fun w hSw => ?_) hS (fun hS => ?_)
    rotate_left
    · go_simp; try with_reducible rfl
    try go_frame
    refine held_pure (i := 5) (oi := ⟨some 34, _, _, _, _, _⟩) rfl (by kernel_rfl) (by kernel_rfl) (by kernel_rfl) (fun _ _ _ h => h) (by rfl) (v := ?_) (fun w hSw => ?_) hS (fun hS => ?_)
    rotate_left
    · go_simp; try with_reducible rfl
    try go_frame
    refine held_pure (i := 6) (oi := ⟨some 35, _, _, _, _, _⟩) rfl (by kernel_rfl) (by kernel_rfl) (by kernel_rfl) (fun _ _ _ h => h) (by rfl) (v := ?_) (fun w hSw => ?_) hS (fun hS => ?_)
    rotate_left
    · go_simp; try with_reducible rfl
    try go_frame
    refine held_pure (i := 7) (oi := ⟨some 36, _, _, _, _, _⟩) rfl (by kernel_rfl) (by kernel_rfl) (by kernel_rfl) (fun _ _ _ h => h) (by rfl) (v := ?_) (fun w hSw => ?_) hS (fun hS => ?_)
    rotate_left
    · go_simp; try with_reducible rfl
    try go_frame
    refine held_pure (i := 8) (oi := ⟨some 37, _, _, _, _, _⟩) rfl (by kernel_rfl) (by kernel_rfl) (by kernel_rfl) (fun _ _ _ h => h) (by rfl) (v := ?_) (fun w hSw => ?_) hS (fun hS => ?_)
    rotate_left
    · go_simp; try with_reducible rfl
    try go_frame
    refine wpAnyH_ready (rs := [9]) (by kernel_rfl) (by simp) (AllReadyH.cons (o := ⟨some 38, _, _, _, _, _⟩) rfl (fun K hK => ?_) AllReadyH.nil)
    rw [if_pos (by rfl)]
    go_simp
    refine (HDL.out w.drew rfl).mono ?_
    rintro e Y ⟨rfl, hrow, hkp⟩
    have HROW := Lib.hid hrow
    have HKY := Lib.hid ((Kept.drew w (S := fun i => i = g)).trans hkp (fun _ _ e => e))
    have HMY : Hid (Mq Y bm N F) := Lib.hid (HMF.out.of_block ((HKY.out.block bm HMF.out.lt HMN.out)))
    clear hrow hkp
    show K _ _
    refine hK.out _ _ (HKY.out.mono (fun i _ e => .inr (HGQ.out i e))) (fun hS => ?_)
    clear hK K
    try go_frame
    refine wpAnyH_ready (rs := [10]) (by kernel_rfl) (by simp) (AllReadyH.cons (o := ⟨none, _, _, _, _, _⟩) rfl (fun K hK => ?_) AllReadyH.nil)
    rw [if_pos (by rfl)]
    obtain ⟨Z, hrun, hmz, hgz⟩ := HMY.out.put HNM.out HB.out (some (g, n - (k + 1 - k), c))
    have kZ := Kept.of_grown hgz
    refine updS_wp rfl rfl rfl rfl hrun ?_
    refine hK.out _ _ (hS.trans (kZ.mono (T := fun i => i = bm ∨ JQ F b i) (fun i _ e => .inl (by injection e))) (fun _ _ e => e)) (fun hS => ?_)
    clear hK K hrun
    try go_frame
    refine wpAnyH_done (by kernel_rfl) ?_ _
    go_wp2_with fail
    refine bodyPost_end (results_none rfl _ _ _) rfl ⟨rfl, k, HKI.out, ?_⟩
    have hel : (ids.eraseIdx k).length = n - (k + 1 - k) := by rw [List.length_eraseIdx, if_pos (by rw [← HN.out]; exact hkn), HN.out]; omega
    have hrow2 := HROW.out
    rw [← hel] at hrow2 hmz
    refine ⟨⟨hz, _, hmz, HRW.out.put HKY.out (fun i hi => HGQ.out i hi) hrow2 HGB.out (by rw [hel]; omega) (.inl (HGQ.out g rfl)) (kZ.mono (fun i _ e => by injection e)) HMY.out.is⟩, JQ F b, hS, fun i hi => ?_, fun i hi => ?_⟩
    · obtain ⟨cs, hh⟩ := HGG.out
      exact .inl ⟨cs, _, by rw [HQG.out i hi]; exact hh, rfl⟩
    · rw [HQG.out i hi]; exact HGB.out
end
end Go.Proofs.YtghbliabmecbcaaDoor
