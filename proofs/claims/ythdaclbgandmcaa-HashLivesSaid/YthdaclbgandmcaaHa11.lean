/-
  Contracts and lemmas on which the proofs of this seat stand (several texts in one). Conditions are each theorem's own.
-/
import Derived.Test.YthdaclbgandmcaaHa10
import Derived.Test.YthdaclbgandmcaaHa3
import Derived.Deep.Slices
import Derived.Test.YthdaclbgandmcaaHa1

/-
  A slice of calls of a table of texts that came in, opened; calls whatever comes. Conditions are each theorem's own.
-/
namespace Go.Proofs.Ythdaclbgandmcaa
open Go.RowKit Go.ChangeShapes Go.WideShapes
/-- A call of a table of texts. -/
structure Dh where
  op : Int
  key : List UInt8
  n : Int
def clDh (y : Dh) : List Value := [.int .i64 y.op, .string (strB y.key), .int .i64 y.n]
theorem clDh_one (y : Dh) : (clDh y).toArray.all (·.oneCell') = true := by simp [clDh, Value.oneCell']
theorem cells_ath {w : World} {base n : Nat} {b off : Nat} {cs : List Value} (h : w.cells? base ⟨b, off, none⟩ n = some cs) : w.rangeAt b off cs := fun j u hj => by
  obtain ⟨_, hl, hc⟩ := World.cells?_some h
  have hlt : j < n := by rw [← hl]; exact (List.getElem?_eq_some_iff.1 hj).1
  have h1 := hc j hlt
  rw [add_off, hj] at h1
  exact h1
section
variable {H : Type} {enc : TypeId × Value → H} {w : World} {base : Nat} {v : Value} {d : DataW H} {p : List MemPlace}
theorem cell_strh {P : Program} {t : TypeId} {x : DataW H × List MemPlace} {n : Nat} {l : List Value} (ht : P.underlying t = some .string) (h : DataW.trod enc P w 0 (fun _ => true) true n t l = some x) : ∃ s : List UInt8, l = [.string (strB s)] ∧ s.length ≤ maxLen := by
  obtain ⟨s, hs, _, hw⟩ := DataW.trod_string ht h
  refine ⟨s.data.toList, ?_, by rw [Array.length_toList]; exact hw⟩
  rw [hs]
  rfl
set_option maxRecDepth 100000 in
theorem cell_dh {x : DataW H × List MemPlace} {fuel : Nat} {l : List Value} (hf : DataW.trod enc Try.prog w 0 (fun _ => true) true fuel 68 l = some x) :
    ∃ y : Dh, l = clDh y ∧ (Lit.int .i64 y.op).wf = true ∧ y.key.length ≤ maxLen ∧ (Lit.int .i64 y.n).wf = true := by
  obtain ⟨xs, n, _, _, hl, hxs, hall⟩ := DataW.trod_struct Try.underlying68 hf
  have hci : Try.prog.cellsOf 3 = 1 := by kernel_rfl
  have hcb : Try.prog.cellsOf 4 = 1 := by kernel_rfl
  have hcy : Try.prog.cellsOf 32 = 1 := by kernel_rfl
  have hcu : Try.prog.cellsOf 5 = 1 := by kernel_rfl
  have hcs : Try.prog.cellsOf 9 = 1 := by kernel_rfl
  have hcn : Try.prog.cellsOf 68 = 3 := by kernel_rfl
  have hl' : l.length = 3 := by rw [← hcn]; exact hl
  have hall' : ∀ (i : Nat) (f : Field), _ → DataW.trod enc Try.prog w 0 (fun _ => true) true n f.type ((l.drop f.offset).take (Try.prog.cellsOf f.type)) = xs[i]? := hall
  match xs, hxs with
  | [y0, y1, y2], _ =>
    have h0 : DataW.trod enc Try.prog w 0 (fun _ => true) true n 3 ((l.drop 0).take (Try.prog.cellsOf 3)) = some y0 := hall' 0 _ rfl
    rw [hci] at h0
    obtain ⟨a0, e0, f0⟩ := cell_int Try.underlying3 h0
    have h1 : DataW.trod enc Try.prog w 0 (fun _ => true) true n 9 ((l.drop 1).take (Try.prog.cellsOf 9)) = some y1 := hall' 1 _ rfl
    rw [hcs] at h1
    obtain ⟨a1, e1, f1⟩ := cell_strh Try.underlying9 h1
    have h2 : DataW.trod enc Try.prog w 0 (fun _ => true) true n 3 ((l.drop 2).take (Try.prog.cellsOf 3)) = some y2 := hall' 2 _ rfl
    rw [hci] at h2
    obtain ⟨a2, e2, f2⟩ := cell_int Try.underlying3 h2
    have k0 := piece_get e0
    have k1 := piece_get e1
    have k2 := piece_get e2
    have el : l = [.int .i64 a0, .string (strB a1), .int .i64 a2] := by
      match l, hl' with
      | [x0, x1, x2], _ => simp at k0 k1 k2; simp [k0, k1, k2]
    exact ⟨⟨a0, a1, a2⟩, el, f0, f1, f2⟩
set_option maxRecDepth 100000 in
theorem get_dhs (hv : Value.okWide Try.prog w .any base 60 v) (h : DataW.Trod enc Try.prog w 0 (fun _ => true) true 60 v d p) :
    ∃ A c l, v = .slice A l.length c ∧ RdS clDh 3 w w.heap.size A l ∧ (∀ y ∈ l, (Lit.int .i64 y.op).wf = true ∧ y.key.length ≤ maxLen ∧ (Lit.int .i64 y.n).wf = true) ∧ l.length ≤ c ∧ c ≤ maxLen := by
  obtain ⟨A, len, cap, rfl⟩ := okWide_slice Try.underlying60 hv
  obtain ⟨fuel, hf⟩ := h
  rcases Deep.open_slice Try.underlying60 hf with ⟨hcs, _⟩ | ⟨a, len', cap', m, n, D, Pl, hcs, _, hl, hm, hmm, _, hall⟩
  · simp [Value.cells] at hcs
    obtain ⟨rfl, rfl, rfl⟩ := hcs
    exact ⟨none, 0, [], rfl, fun hn => absurd hn (by simp), fun x hx => (by cases hx), Nat.le_refl _, Nat.zero_le _⟩
  · simp [Value.cells] at hcs
    obtain ⟨rfl, rfl, rfl⟩ := hcs
    have hcn : Try.prog.cellsOf 68 = 3 := by kernel_rfl
    rw [hcn] at hall
    have hmm' : m = cap := by simpa using hmm
    subst hmm'
    have key : ∀ i, ∃ y : Dh, i < len → w.cells? 0 (a.add (i * 3)) 3 = some (clDh y) ∧ (Lit.int .i64 y.op).wf = true ∧ y.key.length ≤ maxLen ∧ (Lit.int .i64 y.n).wf = true := fun i => by
      by_cases hi : i < len
      · obtain ⟨cs', h1, h2⟩ := hall i (by omega)
        obtain ⟨y, rfl, h3⟩ := cell_dh h2
        exact ⟨y, fun _ => ⟨h1, h3⟩⟩
      · exact ⟨⟨0, [], 0⟩, fun h => absurd h hi⟩
    obtain ⟨X, hX⟩ := Classical.skolem.1 key
    have el : ((List.range len).map X).length = len := by simp
    refine ⟨some a, m, (List.range len).map X, by rw [el], fun hn => ?_, fun x hx => ?_, by rw [el]; exact hl, hm⟩
    · rw [el] at hn
      obtain ⟨b, off, spot⟩ := a
      have h0 := (hX 0 hn).1
      have hc0 : World.cell? w ((Addr.mk b off spot).add (0 * 3) |>.add 0) = (clDh (X 0))[0]? := (World.cells?_some h0).2.2 0 (by decide)
      have hspot : spot = none := by simpa [Addr.add] using World.cell?_spot (hc0.trans rfl)
      subst hspot
      have hb : b < w.heap.size := by simpa [Addr.add] using World.cells?_block h0 (by decide)
      refine ⟨b, off, rfl, hb, fun j x hx => ?_⟩
      have hj : j < len := by
        have := (List.getElem?_eq_some_iff.1 hx).1
        rwa [el] at this
      have e : x = X j := by
        rw [List.getElem?_map, List.getElem?_range hj] at hx
        simpa using hx.symm
      have h1 := (hX j hj).1
      rw [add_off] at h1
      rw [e]
      exact cells_ath h1
    · obtain ⟨i, hi, rfl⟩ := List.mem_map.1 hx
      exact (hX i (List.mem_range.1 hi)).2
end
theorem run_load_dh {o : Oper} {a : Act} {w : World} {x : Operand} {g i : Nat} {cs : List Value} (ho : o.op = .load 68 x) (hx : a.eval x = .pointer (some ⟨g, i, none⟩)) (hr : w.rangeAt g i cs) (hl : cs.length = 3) :
    (execOp a.eval o).run Try.prog w = .ok (.value (.agg cs.toArray)) w := by
  have h := run_loadVar_mid (P := Try.prog) w g i 68 cs _ hr Try.underlying68 rfl (by rw [hl]; kernel_rfl)
  unfold execOp
  simp only [ho, hx, Instr.loadAt, Instr.sureAddr, Sem.run_bind, Sem.run_pure, Result.andThen_ok, h]
theorem dh_store_new {ops : Array Oper} {rest : List Oper} {x y : Operand} {ty : TypeId} {pos : String} {af : Array Edge} {a : Act} {w : World} {Q : Exit → Act → World → Prop}
    {t : TypeId} {cs old : Array Value} (hx : a.eval x = .pointer (some ⟨w.heap.size, 0, none⟩)) (hy : a.eval y = .agg cs) (ho : old.size = 3) (hl : cs.size = 3) (h1 : cs.all (·.oneCell') = true)
    (h : wpList Try.prog ops Q rest (a.put none undef) (w.alloc (.cells cs t))) : wpList Try.prog ops Q (⟨none, .store 68 x y, ty, pos, af, none⟩ :: rest) a (w.alloc (.cells old t)) :=
  wpList_plain rfl fun _ hK => wp_store_row 68 x y rfl w.heap.size cs hx hy t old (World.alloc_heap_new w _) (by rw [hl]; kernel_rfl) (by rw [ho, hl]) h1 (by rw [World.setRow_alloc_new]; exact hK _ _ h)
theorem row_ofDh {w : World} {B : Nat} {A : Option Addr} {l : List Dh} {k : Nat} {x : Dh} (h : RdS clDh 3 w B A l) (hx : l[k]? = some x) : ∃ b o, A = some ⟨b, o, none⟩ ∧ b < B ∧ w.rangeAt b (o + k * 3) (clDh x) := by
  have hk := (List.getElem?_eq_some_iff.1 hx).1
  obtain ⟨b, o, e, hb, hc⟩ := h (by omega)
  exact ⟨b, o, e, hb, hc k x hx⟩
section
variable {w w' : World} {B0 t : Nat} {most : Int} {M R : List Ent} {x : Ent} {key : List UInt8} {n : Int}
theorem perm_split {M : List Ent} {key : List UInt8} (h : ∃ x ∈ M, x.key = key) : ∃ x R, x.key = key ∧ M.Perm (x :: R) := by
  obtain ⟨x, hx, hk⟩ := h
  obtain ⟨A, C, rfl⟩ := List.append_of_mem hx
  exact ⟨x, A ++ C, hk, List.perm_middle⟩
theorem hm_put_any (h : HM w B0 t most M) (hm : (M.length : Int) < most) (key : List UInt8) (n : Int) (hk : key.length ≤ 1000000) (hB : B0 ≤ w.heap.size) :
    Calls Try.prog 34 #[.pointer (some ⟨t, 0, none⟩), .string (strB key), .int .i64 n] w fun e w' => ∃ M', e = .returned (.int .i64 0) ∧ HM w' B0 t most M' ∧ Below B0 w w' ∧ M'.length ≤ M.length + 1 ∧ ∀ z ∈ M, z.key ≠ key → z ∈ M' := by
  by_cases hp : ∃ x ∈ M, x.key = key
  · obtain ⟨x, R, rfl, hq⟩ := perm_split hp
    refine (hm_put_old h hq n hk hB).mono ?_
    rintro e w' ⟨rfl, h1, h2⟩
    refine ⟨_, rfl, h1, h2, by rw [hq.length_eq]; simp, fun z hz hne => ?_⟩
    rcases List.mem_cons.1 (hq.mem_iff.1 hz) with rfl | h3
    · exact absurd rfl hne
    · exact List.mem_cons_of_mem _ h3
  · refine (hm_put_new h (fun x hx e => hp ⟨x, hx, e⟩) hm n hk hB).mono ?_
    rintro e w' ⟨rfl, h1, h2⟩
    exact ⟨_, rfl, h1, h2, Nat.le_refl _, fun z hz _ => List.mem_cons_of_mem _ hz⟩
theorem hm_del_any (h : HM w B0 t most M) (key : List UInt8) (hk : key.length ≤ 1000000) (hB : B0 ≤ w.heap.size) :
    Calls Try.prog 36 #[.pointer (some ⟨t, 0, none⟩), .string (strB key)] w fun e w' => ∃ q M', e = .returned (.bool q) ∧ HM w' B0 t most M' ∧ Below B0 w w' ∧ M'.length ≤ M.length + 1 ∧ ∀ z ∈ M, z.key ≠ key → z ∈ M' := by
  by_cases hp : ∃ x ∈ M, x.key = key
  · obtain ⟨x, R, rfl, hq⟩ := perm_split hp
    refine (hm_del_yes h hq hk hB).mono ?_
    rintro e w' ⟨rfl, h1, h2⟩
    refine ⟨_, _, rfl, h1, h2, by rw [hq.length_eq]; simp; omega, fun z hz hne => ?_⟩
    rcases List.mem_cons.1 (hq.mem_iff.1 hz) with rfl | h3
    · exact absurd rfl hne
    · exact h3
  · refine (hm_del_no h (fun x hx e => hp ⟨x, hx, e⟩) hk hB).mono ?_
    rintro e w' ⟨rfl, h1, h2⟩
    exact ⟨_, _, rfl, h1, h2, by omega, fun z hz _ => hz⟩
end
end Go.Proofs.Ythdaclbgandmcaa

/-
  Keys of two bytes, counted; what a table of them holds. Conditions are each theorem's own.
-/
namespace Go.Proofs.Ythdaclbgandmcaa
open Go.RowKit Go.Shelf

/-- The key of a number. -/
def ky (i : Nat) : List UInt8 := [UInt8.ofNat i, UInt8.ofNat (i / 256)]
theorem ky_inj {i j : Nat} (hi : i < 65536) (hj : j < 65536) (h : ky i = ky j) : i = j := by
  unfold ky at h
  simp only [List.cons.injEq, and_true] at h
  have h1 := congrArg UInt8.toNat h.1
  have h2 := congrArg UInt8.toNat h.2
  simp [UInt8.toNat_ofNat'] at h1 h2
  omega
def ME (f : Nat → Int) (m : Nat) : List Ent := (List.range m).map fun i => ⟨ky i, f i⟩
def RE (f : Nat → Int) (m k : Nat) : List Ent := ((List.range m).erase k).map fun i => ⟨ky i, f i⟩
theorem ME_len (f : Nat → Int) (m : Nat) : (ME f m).length = m := by simp [ME]
theorem ME_succ (f : Nat → Int) (m : Nat) : (⟨ky m, f m⟩ :: ME f m).Perm (ME f (m + 1)) := by
  unfold ME
  rw [List.range_succ, List.map_append]
  exact List.perm_append_comm (l₁ := [(⟨ky m, f m⟩ : Ent)])
theorem ME_mem {f : Nat → Int} {m k : Nat} (h : k < m) : (⟨ky k, f k⟩ : Ent) ∈ ME f m := List.mem_map.2 ⟨k, List.mem_range.2 h, rfl⟩
theorem ME_no {f : Nat → Int} {m : Nat} (h : m < 65536) : ∀ x ∈ ME f m, x.key ≠ ky m := fun x hx e => by
  obtain ⟨i, hi, rfl⟩ := List.mem_map.1 hx
  have := List.mem_range.1 hi
  have := ky_inj (by omega) h e
  omega
theorem ME_new {f : Nat → Int} {m : Nat} : ∀ x ∈ ME f m, x.key ≠ [110, 101, 119] := fun x hx e => by
  obtain ⟨i, hi, rfl⟩ := List.mem_map.1 hx
  have := congrArg List.length e
  simp [ky] at this
theorem ME_take {f : Nat → Int} {m k : Nat} (h : k < m) : (ME f m).Perm (⟨ky k, f k⟩ :: RE f m k) := by
  have := List.perm_cons_erase (List.mem_range.2 h)
  exact this.map (fun i => (⟨ky i, f i⟩ : Ent))
theorem RE_no {f : Nat → Int} {m k : Nat} (hm : m < 65536) (hk : k < m) : ∀ x ∈ RE f m k, x.key ≠ ky k := fun x hx e => by
  obtain ⟨i, hi, rfl⟩ := List.mem_map.1 hx
  have hi2 := (List.Nodup.mem_erase_iff List.nodup_range).1 hi
  have := List.mem_range.1 hi2.2
  exact hi2.1 (ky_inj (by omega) (by omega) e)
theorem RE_len {f : Nat → Int} {m k : Nat} (h : k < m) : (RE f m k).length + 1 = m := by
  have := (ME_take (f := f) h).length_eq
  rw [ME_len, List.length_cons] at this
  omega
theorem RE_eq {f g : Nat → Int} {m k : Nat} (h : ∀ i, i ≠ k → f i = g i) : RE f m k = RE g m k := by
  unfold RE
  refine List.map_congr_left fun i hi => ?_
  rw [h i ((List.Nodup.mem_erase_iff List.nodup_range).1 hi).1]
/-- What each has, when those below k that three divides have been put again. -/
def fk (k i : Nat) : Int := if i % 3 = 0 ∧ i < k then -(i : Int) else (i : Int)
theorem fk_zero (i : Nat) : fk 0 i = (i : Int) := by unfold fk; rw [if_neg (by omega)]
theorem fk_step {k : Nat} (h3 : k % 3 = 0) (i : Nat) (hne : i ≠ k) : fk k i = fk (k + 3) i := by
  unfold fk
  by_cases h : i % 3 = 0
  · by_cases h2 : i < k
    · rw [if_pos ⟨h, h2⟩, if_pos ⟨h, by omega⟩]
    · rw [if_neg (by omega), if_neg (by omega)]
  · rw [if_neg (fun h' => h h'.1), if_neg (fun h' => h h'.1)]
theorem fk_at {k : Nat} (h3 : k % 3 = 0) : fk (k + 3) k = -(k : Int) := by unfold fk; rw [if_pos ⟨h3, by omega⟩]
theorem fk_here (k : Nat) : fk k k = (k : Int) := by unfold fk; rw [if_neg (by omega)]
theorem ME_put {m k : Nat} (h3 : k % 3 = 0) (hk : k < m) : ((⟨ky k, -(k : Int)⟩ : Ent) :: RE (fk k) m k).Perm (ME (fk (k + 3)) m) := by
  have := ME_take (f := fk (k + 3)) hk
  rw [fk_at h3, ← RE_eq (fk_step h3)] at this
  exact this.symm
theorem ME_up {m k : Nat} (h : m ≤ k) (f : Nat → Int) (hf : f = fk k) : ME f m = ME (fun i => if i % 3 = 0 then -(i : Int) else (i : Int)) m := by
  subst hf
  unfold ME
  refine List.map_congr_left fun i hi => ?_
  have := List.mem_range.1 hi
  unfold fk
  by_cases h3 : i % 3 = 0
  · rw [if_pos ⟨h3, by omega⟩]; show _ = (⟨ky i, if i % 3 = 0 then -(i : Int) else (i : Int)⟩ : Ent); rw [if_pos h3]
  · rw [if_neg (fun h' => h3 h'.1)]; show _ = (⟨ky i, if i % 3 = 0 then -(i : Int) else (i : Int)⟩ : Ent); rw [if_neg h3]
set_option maxRecDepth 100000 in
theorem hmkey (i : Nat) (hi : i < 700) (w : World) : Calls Try.prog 41 #[.int .i64 (i : Int)] w fun e w' => e = .returned (.string (strB (ky i))) ∧ Below w.heap.size w w' := by
  have hb : Below w.heap.size w (w.alloc (.cells #[.int .u8 ((i : Int) % 256), .int .u8 ((i : Int) / 256)] 5)) := (Below.refl _ w).alloc (Nat.le_refl _) _
  have hrd : Rd (w.alloc (.cells #[.int .u8 ((i : Int) % 256), .int .u8 ((i : Int) / 256)] 5)) (w.heap.size + 1) (some ⟨w.heap.size, 0, none⟩) (ky i) := by
    refine Rd.of_block (World.alloc_heap_new w _) (Nat.lt_succ_self _) 0 fun j hj => ?_
    have e0 : byt (ky i) 0 = (i : Int) % 256 := by simp [byt, ky, UInt8.toNat_ofNat']
    have e1 : byt (ky i) 1 = (i : Int) / 256 := by simp [byt, ky, UInt8.toNat_ofNat']; omega
    have : j = 0 ∨ j = 1 := by have : (ky i).length = 2 := rfl; omega
    rcases this with rfl | rfl
    · rw [e0]; rfl
    · rw [e1]; rfl
  have hcv := conv_any _ (ky i) 2 _ _ hrd
  rw [show (ky i).length = 2 from rfl] at hcv
  clear hrd
  go_enter Try.func41, Try.ntmps41
  go_wp2
  go_ret
  exact ⟨rfl, hb⟩
end Go.Proofs.Ythdaclbgandmcaa
