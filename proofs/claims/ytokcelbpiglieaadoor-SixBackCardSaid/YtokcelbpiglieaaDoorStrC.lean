/-
  Contracts of Go's library at this program: strings.Cut at one byte, strconv.Itoa below 256, strings.Join over strings that the call made. Conditions are each theorem's own.
-/
import Derived.Test.YtokcelbpiglieaaDoorBase
import Derived.Test.YtokcelbpiglieaaDoorMem
import Derived.Test.YtokcelbpiglieaaDoorCutM
import Derived.Test.YtokcelbpiglieaaDoorFourM
import Derived.Test.YtokcelbpiglieaaDoorShelf
import Derived.Shelf.RegionOpenPlain
import Derived.Lib.IndexLaws
import Derived.Lib.CutLaws
import Derived.Lib.LaidTab
import Derived.Lib.TrailingZeros
import Derived.Lib.ItoaMem
import Derived.Laws.AppendOwn
import Derived.Laws.AppendOwnNone
namespace Go.Proofs.YtokcelbpiglieaaDoor
open Go.RowKit

theorem strB_data (s : ByteArray) : s = strB s.data.toList := rfl
theorem cutc_none {l : List UInt8} {c : UInt8} (h : Lib.indexByte l c = -1) : cutc c l = (l, [], false) :=
  cutc_miss c l fun hm => by
    obtain ⟨k, hk⟩ := List.getElem?_of_mem hm
    exact Lib.indexByte_none h k hk
theorem cutc_some {l : List UInt8} {c : UInt8} {i : Nat} (h : Lib.indexByte l c = (i : Int)) : i < l.length ∧ cutc c l = (l.take i, l.drop (i + 1), true) := by
  obtain ⟨h1, h2⟩ := Lib.indexByte_some h
  obtain ⟨hi, he⟩ := List.getElem?_eq_some_iff.1 h1
  refine ⟨hi, ?_⟩
  have e : l = l.take i ++ c :: l.drop (i + 1) := by
    rw [← he, List.getElem_cons_drop, List.take_append_drop]
  have hn : c ∉ l.take i := fun hm => by
    obtain ⟨k, hk⟩ := List.getElem?_of_mem hm
    rw [List.getElem?_take] at hk
    split at hk
    · exact h2 k (by assumption) hk
    · cases hk
  have := cutc_hit c (l.take i) (l.drop (i + 1)) hn
  rwa [← e] at this
theorem ext_take (s : ByteArray) (i : Nat) : s.extract 0 i = strB (s.data.toList.take i) := by
  rw [strB_data (s.extract 0 i), Lib.extract_data]; simp
theorem ext_drop (s : ByteArray) (i : Nat) : s.extract i s.size = strB (s.data.toList.drop i) := by
  rw [strB_data (s.extract i s.size), Lib.extract_data, Lib.size_eq]
  congr 1
  exact List.take_of_length_le (by simp)

theorem icut (s : ByteArray) (c : UInt8) (w : World) (hs : s.size ≤ 9223372036854775807) :
    Calls Tryd.prog 48 #[.string s, .string ⟨#[c]⟩] w fun e w' =>
      e = .returned (.tuple #[.string (strB (cutc c s.data.toList).1), .string (strB (cutc c s.data.toList).2.1), .bool (cutc c s.data.toList).2.2]) ∧ ∃ n, w' = w.drewN n := by
  have hge := Lib.indexByte_ge s.data.toList c
  by_cases hm : Lib.indexByte s.data.toList c = -1
  · have HC := Lib.hid (cutc_none hm)
    go_enter Tryd.func48, Tryd.ntmps48
    go_wp2_with (go_at_call 53; refine (Tryd.stringslite_Index_one s c _).mono ?_; rintro e w' ⟨rfl, rfl⟩; rw [hm])
    go_ret3
    exact ⟨by rw [HC.out]; rfl, 0, rfl⟩
  · obtain ⟨i, hi⟩ := Int.eq_ofNat_of_zero_le (show 0 ≤ Lib.indexByte s.data.toList c by omega)
    obtain ⟨hlt, hcut⟩ := cutc_some hi
    have HC := Lib.hid hcut
    rw [← Lib.size_eq] at hlt
    have hone : (⟨#[c]⟩ : ByteArray).size = 1 := rfl
    have mixed : Tryd.prog.follows Departure.mixedOrders = true := by kernel_rfl
    have hw : IntKind.i64.wrap ((i : Int) + 1) = (i : Int) + 1 := IntWalk.i64_in _ (by omega)
    have hn1 : ((i : Int) + 1).toNat = i + 1 := by omega
    have c1 : (0 : Int) ≤ ↑i := by omega
    have c2 : (↑i : Int) ≤ ↑s.size := by omega
    have c3 : (0 : Int) ≤ ↑i + 1 := by omega
    have c4 : (↑i + 1 : Int) ≤ ↑s.size := by omega
    go_enter Tryd.func48, Tryd.ntmps48
    go_wp2_with (go_at_call 53; refine (Tryd.stringslite_Index_one s c _).mono ?_; rintro e w' ⟨rfl, rfl⟩; rw [hi])
    go_region_o
    go_wp2
    go_ret3
    refine ⟨?_, 1, rfl⟩
    rw [HC.out, ← ext_take, ← ext_drop]
    rfl
theorem ccut (s : ByteArray) (c : UInt8) (w : World) (hs : s.size ≤ 9223372036854775807) :
    Calls Tryd.prog 36 #[.string s, .string ⟨#[c]⟩] w fun e w' =>
      e = .returned (.tuple #[.string (strB (cutc c s.data.toList).1), .string (strB (cutc c s.data.toList).2.1), .bool (cutc c s.data.toList).2.2]) ∧ ∃ n, w' = w.drewN n := by
  go_enter Tryd.func36, Tryd.ntmps36
  go_wp2_with (go_at_call 48; refine (icut s c _ hs).mono ?_; rintro e w' ⟨rfl, n, rfl⟩)
  go_ret3
  exact ⟨rfl, n, rfl⟩

theorem below_grow (B : Nat) (w : World) (hB : B ≤ w.heap.size) (k : Nat) (os : Array Obj) : Below B w (Sort.grow (w.drewN k) os) :=
  ⟨rfl, rfl, rfl, by show w.heap.size ≤ (w.heap ++ os).size; rw [Array.size_append]; omega, fun j hj => Array.getElem?_append_left (show j < w.heap.size by omega)⟩

/-- The tables of the library that are read: they hold what their initialisers lay. -/
def Tabs (w : World) : Prop := Lib.TabIs Tryd.prog w "internal/strconv.uint64pow10" .u64 Lib.pow10Tab ∧ Lib.TabIs Tryd.prog w "math/bits.deBruijn64tab" .u8 (Lib.deBruijn64tab.map fun n : Nat => (n : Int))
theorem glob_pow : Tryd.prog.globalNamed "internal/strconv.uint64pow10" = some 1 := by kernel_rfl
theorem glob_bruijn : Tryd.prog.globalNamed "math/bits.deBruijn64tab" = some 3 := by kernel_rfl
theorem var_below {P : Program} {B g : Nat} {W W' : World} {n : String} {cs : Array Value} (h : Below B W W') (hg : P.globalNamed n = some g) (hgB : g < B) (hv : W.var? P n = some cs) : W'.var? P n = some cs := by
  unfold World.var? at hv ⊢
  simp only [hg, Option.bind_some] at hv ⊢
  rw [h.block g hgB]
  exact hv
theorem var_lt {P : Program} {g : Nat} {W : World} {n : String} {cs : Array Value} (hg : P.globalNamed n = some g) (hv : W.var? P n = some cs) : g < W.heap.size := by
  unfold World.var? at hv
  simp only [hg, Option.bind_some] at hv
  rcases Nat.lt_or_ge g W.heap.size with h | h
  · exact h
  · rw [Array.getElem?_eq_none h] at hv; cases hv
theorem Tabs.below {B : Nat} {w w' : World} (h : Tabs w) (hb : Below B w w') (hB : w.heap.size ≤ B) : Tabs w' :=
  ⟨var_below hb glob_pow (Nat.lt_of_lt_of_le (var_lt glob_pow h.1) hB) h.1, var_below hb glob_bruijn (Nat.lt_of_lt_of_le (var_lt glob_bruijn h.2) hB) h.2⟩
theorem Tabs.step {w w' : World} (h : Tabs w) (hb : Below w.heap.size w w') : Tabs w' := h.below hb (Nat.le_refl _)
theorem Tabs.alloc {w : World} (h : Tabs w) (o : Obj) : Tabs (w.alloc o) := h.below ((Below.refl w.heap.size w).alloc (Nat.le_refl _) o) (Nat.le_refl _)

theorem dec_digits {n : Nat} (h : n < 256) : Lib.decDigits n = dec n := by
  unfold dec
  split
  · rw [Lib.decDigits, dif_pos (by assumption)]
  · split
    · rw [Lib.decDigits, dif_neg (by assumption), Lib.decDigits, dif_pos (by omega)]; rfl
    · rw [Lib.decDigits, dif_neg (by assumption), Lib.decDigits, dif_neg (by omega), Lib.decDigits, dif_pos (by omega), Nat.div_div_eq_div_mul]; rfl
theorem citoa (v : Int) (n : Nat) (hv : v = (n : Int)) (h : n < 256) (w : World) (hT : Tabs w) :
    Calls Tryd.prog 32 #[.int .i64 v] w fun e w' => e = .returned (.string (strB (dec n))) ∧ Below w.heap.size w w' := by
  subst hv
  by_cases h1 : n < 100
  · refine (Tryd.strconv_Itoa_small n h1 w).mono ?_
    rintro e w' ⟨rfl, rfl⟩
    exact ⟨by rw [dec_digits h]; rfl, Below.refl _ _⟩
  · refine (Tryd.strconv_Itoa n (by omega) (by omega) w hT.1).mono ?_
    rintro e w' ⟨rfl, k, os, rfl⟩
    exact ⟨by rw [Lib.itoa, if_neg (by omega), Int.toNat_natCast, dec_digits h]; rfl, below_grow _ _ (Nat.le_refl _) k os⟩

/-- Strings as values. -/
def sv (l : List UInt8) : Value := .string (strB l)
theorem sv_one (ls : List (List UInt8)) : ∀ u ∈ ls.map sv, u.oneCell' = true := by
  intro u hu; simp only [List.mem_map] at hu; obtain ⟨x, _, rfl⟩ := hu; rfl
theorem info_str : (Tryd.prog.info? 9).map (fun i => (i.zero, i.size, i.bytes)) = some (some (.string ByteArray.empty), 1, 16) := by kernel_rfl
/-- append of one string onto a row of the call's own. -/
theorem append_str {w : World} {ops : Array Oper} {rest : List Oper} {o : Oper} {a : Act} {Q : Exit → Act → World → Prop} (hgd : o.guard = none) (s x : Operand)
    (ho : o.op = .call { callee := .builtin .append, args := #[s, x], argTypes := #[41, 41] })
    (base : Nat) (v : Value) (n : Nat) (ls : List (List UInt8)) (hs : a.eval s = v) (hown : w.ownsRow base 9 1 v n (ls.map sv))
    (g : Nat) (y : List UInt8) (hx : a.eval x = .slice (some ⟨g, 0, none⟩) 1 1) (hy : w.cell? ⟨g, 0, none⟩ = some (sv y))
    (hlen : n ≤ 1000) (hbase : base ≤ w.heap.size)
    (h : ∀ v' w', w'.ownsRow base 9 1 v' (n + 1) ((ls ++ [y]).map sv) → w.grownBy w' v.ownBlock → wpList Tryd.prog ops Q rest (a.put o.dst v') w') : wpList Tryd.prog ops Q (o :: rest) a w := by
  obtain ⟨i0, hi, hz0, hz1, hz2⟩ := info_parts info_str
  refine wpList_append_own w hgd s x 41 ho base 9 i0 (.string ByteArray.empty) 1 16 Tryd.underlying41 hi hz0 hz1 hz2 rfl (by decide) v n (ls.map sv) hs hown ⟨g, 0, none⟩ 1 1 [sv y] hx
      rfl (fun j u hu => ?_) (by intro u hu; simp only [List.mem_singleton] at hu; subst hu; rfl) (by unfold maxLen; omega) (by omega) hbase (fun v' w' h1 h2 _ => h v' w' (by simpa using h1) h2)
  have hj : j = 0 := by have := (List.getElem?_eq_some_iff.1 hu).1; simp at this; exact this
  subst hj
  simp only [List.getElem?_cons_zero, Option.some.injEq] at hu
  rw [← hu, add_off]; exact hy

theorem join_own {w : World} {base n c : Nat} {A : Option Addr} {ls : List (List UInt8)} (hown : w.ownsRow base 9 1 (.slice A n c) n (ls.map sv)) (hn : n = ls.length) (h1 : 1 ≤ n) (h2 : n ≤ 1000) (sep : UInt8)
    (hlen : (Lib.join ls [sep]).length ≤ 1000000) :
    Calls Tryd.prog 33 #[.slice A n c, .string ⟨#[sep]⟩] w fun e w' => e = .returned (.string (strB (Lib.join ls [sep]))) ∧ Below w.heap.size w w' := by
  subst hn
  rcases hown.2 with ⟨_, h0⟩ | ⟨g, cap, cur, hv, _, hh, hle, hcap, hs, ht⟩
  · omega
  · have hA : A = some ⟨g, 0, none⟩ ∧ c = cap := by injection hv with h1 h2 h3; exact ⟨h1, h3⟩
    obtain ⟨rfl, rfl⟩ := hA
    have hm : ((ls.map strB).map (·.data.toList)) = ls := by rw [List.map_map]; exact List.map_id ls
    have hj := Tryd.strings_Join g 0 c (ls.map strB) ⟨#[sep]⟩ w (fun j x hx => by
        rw [cell_of_row w g (0 + j) cur 9 (0, 0) hh, Nat.zero_add]
        have hj : j < ls.length := by have := (List.getElem?_eq_some_iff.1 hx).1; simpa using this
        have h1 : (List.take (ls.length * 1) cur.toList)[j]? = (ls.map sv)[j]? := by rw [ht]
        rw [List.getElem?_take, if_pos (by omega)] at h1
        rw [List.getElem?_map] at hx h1
        simp only [Array.getElem?_toList] at h1
        rw [h1]
        cases hl : ls[j]? with
        | none => rw [hl] at hx; cases hx
        | some z => rw [hl] at hx; simp only [Option.map_some, Option.some.injEq] at hx; simp [sv, hx]) (Array.getElem?_eq_some_iff.1 hh).1 (by simp; omega) (by simp; omega) (by rw [hm]; exact Nat.le_trans hlen (by decide))
    rw [hm, List.length_map] at hj
    exact hj
end Go.Proofs.YtokcelbpiglieaaDoor
