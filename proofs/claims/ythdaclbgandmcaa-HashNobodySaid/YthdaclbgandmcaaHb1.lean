/-
  Contracts and lemmas on which the proofs of this seat stand (several texts in one). Conditions are each theorem's own.
-/
import Derived.Test.YthdaclbgandmcaaHa10
import Derived.Shelf.SlSortCmp.NoneTotal
import Derived.Shelf.Lay
import Derived.Laws.Cover1
import Derived.Ground.SlsfProg

/-
  All of layer 18's code: what is taken, by their keys. Conditions are each theorem's own.
-/
namespace Go.Proofs
open Go.RowKit Go.Shelf
shelf_lay_g SlLaysF0.n6 Slsf 6 at Try 79 as Try.sortHs
namespace Ythdaclbgandmcaa
open Go.Sort hiding Below
instance : Inhabited Ent := ⟨⟨[], 0⟩⟩
def clF (e : Ent) : List Value := clE (some e)
/-- How two texts stand to each other. -/
def cmpS (a b : List UInt8) : Int := if Sort.ltStr a b then -1 else if Sort.ltStr b a then 1 else 0
theorem str_list (x : List UInt8) : (strB x).toList = x := by simp [strB]
theorem hsnan (a : List UInt8) (w : World) : Calls Try.prog 110 #[.string (strB a)] w fun e w' => e = .returned (.bool false) ∧ w = w' := by
  have d : ((strB a).toList == (strB a).toList) = true := by simp
  go_enter Try.func110, Try.ntmps110
  go_wp2
  go_ret
  exact ⟨rfl, rfl⟩
theorem str_tri {a b : List UInt8} (h1 : ¬ a < b) (h3 : a ≠ b) : b < a := Classical.byContradiction fun h2 => h3 (List.le_antisymm (List.not_lt.1 h2) (List.not_lt.1 h1))
theorem hscmp (a b : List UInt8) (w : World) : Calls Try.prog 81 #[.string (strB a), .string (strB b)] w fun e w' => e = .returned (.int .i64 (cmpS a b)) ∧ w = w' := by
  have e1 : Op.bytesLess (strB a).toList (strB b).toList = Sort.ltStr a b := by rw [str_list, str_list]; exact bytesLess_eq _ _
  have e2 := strB_eq a b
  by_cases h1 : a < b
  · have HC := Lib.hid (show cmpS a b = -1 from if_pos (show Sort.ltStr a b = true from decide_eq_true h1))
    rw [show Sort.ltStr a b = true from decide_eq_true h1] at e1
    clear h1 e2
    go_enter Try.func81, Try.ntmps81
    go_wp2_with (go_at_call 110; refine (hsnan _ _).mono ?_; rintro e w1 ⟨rfl, rfl⟩)
    go_ret
    exact ⟨by rw [HC.out]; rfl, rfl⟩
  · rw [show Sort.ltStr a b = false from decide_eq_false h1] at e1
    by_cases h3 : a = b
    · have HC := Lib.hid (show cmpS a b = 0 from by subst h3; unfold cmpS Sort.ltStr; simp [List.lt_irrefl])
      rw [decide_eq_true h3] at e2
      clear h1 h3
      go_enter Try.func81, Try.ntmps81
      go_wp2_with (go_at_call 110; refine (hsnan _ _).mono ?_; rintro e w1 ⟨rfl, rfl⟩)
      go_ret
      exact ⟨by rw [HC.out]; rfl, rfl⟩
    · have HC := Lib.hid (show cmpS a b = 1 from by unfold cmpS; rw [if_neg (by rw [show Sort.ltStr a b = false from decide_eq_false h1]; decide), if_pos (show Sort.ltStr b a = true from decide_eq_true (str_tri h1 h3))])
      rw [decide_eq_false h3] at e2
      clear h1 h3
      go_enter Try.func81, Try.ntmps81
      go_wp2_with (go_at_call 110; refine (hsnan _ _).mono ?_; rintro e w1 ⟨rfl, rfl⟩)
      go_ret
      exact ⟨by rw [HC.out]; rfl, rfl⟩
/-- The order of entries is that of their keys. -/
theorem ltE (x y : Ent) : ltOf (fun x y : Ent => cmpS x.key y.key) x y = Sort.ltStr x.key y.key := by
  unfold ltOf cmpS
  cases h1 : Sort.ltStr x.key y.key
  · cases h2 : Sort.ltStr y.key x.key <;> (simp only [h1, h2]; decide)
  · simp only [h1]; rfl
theorem swoE : Sort.SWO (ltOf fun x y : Ent => cmpS x.key y.key) where
  irrefl x := by rw [ltE]; exact Sort.swo_ltStr.irrefl _
  trans x y z h1 h2 := by rw [ltE] at *; exact Sort.swo_ltStr.trans _ _ _ h1 h2
  ntrans x y z h1 h2 := by rw [ltE] at *; exact Sort.swo_ltStr.ntrans _ _ _ h1 h2
theorem hsall1 (x y : Ent) (W : World) : Calls Try.prog 80 #[.agg (clF x).toArray, .agg (clF y).toArray] W fun e w' => e = .returned (.int .i64 (cmpS x.key y.key)) ∧ ∃ q os', w' = grow (W.drewN q) os' := by
  have HX := World.alloc_heap_new W (.cells (clF x).toArray 143)
  have kx : ((W.alloc (.cells (clF x).toArray 143)).alloc (.cells (clF y).toArray 143)).cell? ⟨W.heap.size, 2, none⟩ = some (.string (strB x.key)) := cells_at (i := 2) ((Below.heap_alloc _ _ _ (by simp)).trans HX) rfl
  have ky2 : ((W.alloc (.cells (clF x).toArray 143)).alloc (.cells (clF y).toArray 143)).cell? ⟨W.heap.size + 1, 2, none⟩ = some (.string (strB y.key)) := by
    have := World.alloc_heap_new (W.alloc (.cells (clF x).toArray 143)) (.cells (clF y).toArray 143)
    rw [World.size_alloc] at this
    exact cells_at (i := 2) this rfl
  clear HX
  go_enter Try.func80, Try.ntmps80
  go_wp2_with (go_at_call 81; refine (hscmp _ _ _).mono ?_; rintro e w' ⟨rfl, rfl⟩)
  go_ret
  exact ⟨rfl, 0, _, by rw [alloc_eq_grow, alloc_eq_grow, grow_grow]; rfl⟩
/-- Entries in the order of their keys. -/
def Srt (S : List Ent) : Prop := S.Pairwise fun a b => a.key < b.key
theorem flatF_at {S : List Ent} {i : Nat} (hi : i < S.length) {c : Nat} (hc : c < 4) : (S.flatMap clF)[i * 4 + c]? = (clF S[i])[c]? := by
  have hl : (clF S[i]).length = 4 := clE_len _
  have := flat_at (cl := clF) (sz := 4) S (fun x _ => clE_len _) i S[i] (List.getElem?_eq_getElem hi) c _ (List.getElem?_eq_getElem (by omega))
  rw [this, List.getElem?_eq_getElem]
theorem holdsF {w : World} {g : Nat} {cur : Array Value} {S : List Ent} (hg : w.heap[g]? = some (.cells cur 143 (0, 0))) (ht : cur.toList.take (S.length * 4) = S.flatMap clF) : HoldsK clF 4 w g 0 S.toArray := by
  intro j hj
  rw [size_flatK, List.size_toArray] at hj
  rw [get_flatK _ _ _ _ (by rw [List.size_toArray]; exact hj)]
  refine ⟨?_, heap_frozen hg _⟩
  have hi : j / 4 < S.length := by omega
  have h1 := flatF_at (S := S) hi (c := j % 4) (Nat.mod_lt _ (by decide))
  rw [show j / 4 * 4 + j % 4 = j from by omega, ← ht, List.getElem?_take, if_pos hj, Array.getElem?_toList] at h1
  rw [Nat.zero_add, cell_of_row _ _ _ _ _ _ hg, h1]
  have hl : (clF S[j / 4]).length = 4 := clE_len _
  have e1 : S.toArray[j / 4]! = S[j / 4] := by rw [getElem!_pos _ _ (by rw [List.size_toArray]; exact hi)]; rfl
  rw [e1, List.getElem?_eq_getElem (by rw [hl]; exact Nat.mod_lt _ (by decide)), getElem!_pos _ _ (by rw [hl]; exact Nat.mod_lt _ (by decide))]
  rfl
theorem rds_of_holds {w : World} {g : Nat} {d : Array Ent} (h : HoldsK clF 4 w g 0 d) (hg : g < w.heap.size) : RdS clF 4 w w.heap.size (some ⟨g, 0, none⟩) d.toList := fun _ => by
  refine ⟨g, 0, rfl, hg, fun j x hx i v hv => ?_⟩
  have hj : j < d.size := by have := (List.getElem?_eq_some_iff.1 hx).1; simpa using this
  have hi := (List.getElem?_eq_some_iff.1 hv).1
  rw [show (clF x).length = 4 from clE_len _] at hi
  have h1 := (HoldsK.cell h hj hi).1
  have e1 : d[j]! = x := by
    rw [getElem!_pos d j hj]
    rw [Array.getElem?_toList, Array.getElem?_eq_getElem hj] at hx
    exact Option.some.inj hx
  rw [e1] at h1
  rw [h1, getElem!_pos _ _ (by rw [show (clF x).length = 4 from clE_len _]; exact hi)]
  rw [List.getElem?_eq_getElem (by rw [show (clF x).length = 4 from clE_len _]; exact hi)] at hv
  exact hv
theorem sorted_keys {S d : List Ent} (hp : d.Perm S) (hk : S.Pairwise fun a b => a.key ≠ b.key) (hs : Sort.SortedIn (ltOf fun x y : Ent => cmpS x.key y.key) 0 d.length d.toArray) : Srt d := by
  have hk2 := hp.symm.pairwise hk (fun e => e.symm)
  rw [Srt, List.pairwise_iff_getElem]
  rw [List.pairwise_iff_getElem] at hk2
  intro i j hi hj hij
  have h1 := hs i j (Nat.zero_le _) hij hj
  rw [ltE, getElem!_pos d.toArray i (by simpa using hi), getElem!_pos d.toArray j (by simpa using hj)] at h1
  simp only [Sort.ltStr, decide_eq_false_iff_not, List.getElem_toArray] at h1
  exact str_tri h1 (fun e => hk2 i j hi hj hij e.symm)
theorem info_hspF : (Try.prog.info? 143).map (fun i => (i.zero, i.size, i.bytes)) = some (some (.agg (clE none).toArray), 4, 40) := info_hsp
theorem Kept.of_grown' {a b : World} {g : Nat} (h : a.grownBy b (some g)) : Kept (fun k => k = g) a b := (Kept.of_grown h).mono (fun _ _ e => by injection e)
theorem grownF {w : World} {g n : Nat} {os : Array Obj} (F : Array Value) : w.grownBy (grow (putRow id (Sort.ahead w n) g 0 F) os) (some g) := by
  refine ⟨rfl, rfl, rfl, by simp, fun k hk hne => ?_⟩
  have hgk : g ≠ k := fun e => hne (by rw [e])
  rw [heap_grow_old _ _ (by simpa using hk)]
  simp [putRow, mapBlock, Sort.ahead, Array.getElem?_modify, hgk]
theorem sortF (g cap : Nat) (S : List Ent) (w : World) (hH : HoldsK clF 4 w g 0 S.toArray) (hg : g < w.heap.size) (hS : S.length ≤ 1000000) (hk : S.Pairwise fun a b => a.key ≠ b.key) :
    Calls Try.prog 79 #[.slice (some ⟨g, 0, none⟩) S.length cap, .func (.func 80) #[] #[]] w fun e w' =>
      e = .returned (.tuple #[]) ∧ ∃ d, d.Perm S ∧ Srt d ∧ RdS clF 4 w' w'.heap.size (some ⟨g, 0, none⟩) d ∧ Kept (fun k => k = g) w w' := by
  have eg : ∀ args w, (callFunc 80 args).run Try.prog w = .ok (.enter 80 args) w := enters_of Try.func80 (by kernel_rfl) rfl
  have hcmp : CmpLays Try.prog 80 #[] clF 4 (fun x y : Ent => cmpS x.key y.key) g 0 S.toArray.size w := fun _ _ _ _ x y => hsall1 x y _
  have hcon := AnyQ.slices_SortFunc Try.sortHs 4 Try.isAgg143 Try.sizeOf143 clF (fun x => clE_len _) (fun x v hv => by simp [clF, clE] at hv; rcases hv with rfl | rfl | rfl | rfl <;> rfl) (fun x y : Ent => cmpS x.key y.key) swoE 80 #[] g 0 cap S.toArray w eg hcmp hH hg (by rw [List.size_toArray]; omega)
  rw [List.size_toArray] at hcon
  change Calls Try.prog 79 _ _ _ at hcon
  refine hcon.mono ?_
  rintro e w' ⟨rfl, d', n, os, hp, hs, rfl⟩
  have hz : d'.size = S.length := by have := hp.1; rwa [List.size_toArray] at this
  have hpm : d'.toList.Perm S := by
    have h3 := hp.2.2
    rw [show S.toArray.extract 0 S.length = S.toArray from by simp, ← hz, show d'.extract 0 d'.size = d' from by simp] at h3
    exact h3
  have hH2 := holdsK_sortWorldK clF 4 w g 0 n S.toArray d' os hg hH hp.1
  have hg2 := lt_sortWorldK clF 4 w g 0 n d' os hg
  refine ⟨rfl, d'.toList, hpm, sorted_keys hpm hk ?_, rds_of_holds hH2 hg2, Kept.of_grown' (grownF (w := w) (g := g) (n := n) (os := os) (flatK clF 4 d'))⟩
  rw [Array.length_toList, hz]
  exact hs
end Ythdaclbgandmcaa
end Go.Proofs

/-
  All of layer 18's code, and the iterator over what it found. Conditions are each theorem's own.
-/
namespace Go.Proofs.Ythdaclbgandmcaa
open Go.RowKit Go.Shelf
attribute [local go_sem] Oper.semAt_some

theorem clF_len (e : Ent) : (clF e).length = 4 := clE_len _
theorem run_bsH {o : Oper} {a : Act} {w : World} {x : Operand} {cs : Array Value} (ho : o.op = .buildSlice 79 1 #[(0, x)]) (hx : a.eval x = .agg cs) (hl : cs.size = 4) :
    (execOp a.eval o).run Try.prog w = .ok (.value (.slice (some ⟨w.heap.size, 0, none⟩) 1 1)) (w.alloc (.cells cs 143)) := by
  obtain ⟨i0, hi, hz0, hz1, hz2⟩ := info_parts info_hsp
  have h := run_lit1 (P := Try.prog) w 79 143 i0 _ cs 4 Try.underlying79 hi hz0 hz1 hl (by decide) (by decide)
  unfold execOp
  simp only [ho, List.map_toArray, List.map_cons, List.map_nil, hx, Sem.run_bind, h, Result.andThen_ok]
  rfl
theorem list_growH {P : Program} {ops : Array Oper} {rest : List Oper} {o : Oper} {a : Act} {w w' : World} {Q : Exit → Act → World → Prop} {v : Value} (hg : o.guard = none) (hrun : (execOp a.eval o).run P w = .ok (.value v) w')
    (h : wpList P ops Q rest (a.put o.dst v) w') : wpList P ops Q (o :: rest) a w :=
  wpList_plain hg fun _ hK => by unfold Oper.wp; rw [hrun]; exact hK _ _ h
theorem append_hF {w : World} {ops : Array Oper} {rest : List Oper} {o : Oper} {a : Act} {Q : Exit → Act → World → Prop} (hgd : o.guard = none) (s x : Operand)
    (ho : o.op = .call { callee := .builtin .append, args := #[s, x], argTypes := #[79, 79] })
    (base : Nat) (v : Value) (S : List Ent) (hs : a.eval s = v) (hown : w.ownsRow base 143 4 v S.length (S.flatMap clF))
    (g : Nat) (y : Ent) (hx : a.eval x = .slice (some ⟨g, 0, none⟩) 1 1) (hy : w.rangeAt g 0 (clF y))
    (hlen : S.length ≤ 1000000) (hbase : base ≤ w.heap.size)
    (h : ∀ v' w', w'.ownsRow base 143 4 v' (S ++ [y]).length ((S ++ [y]).flatMap clF) → w.grownBy w' v.ownBlock → wpList Try.prog ops Q rest (a.put o.dst v') w') : wpList Try.prog ops Q (o :: rest) a w := by
  obtain ⟨i0, hi, hz0, hz1, hz2⟩ := info_parts info_hsp
  refine wpList_append_own w hgd s x 79 ho base 143 i0 _ 4 40 Try.underlying79 hi hz0 hz1 hz2 rfl (by decide) v S.length (S.flatMap clF) hs hown ⟨g, 0, none⟩ 1 1 (clF y) hx
      (clF_len y) (fun j u hu => ?_) (fun u hu => by simp [clF, clE] at hu; rcases hu with rfl | rfl | rfl | rfl <;> rfl) (by unfold maxLen; omega) (by omega) hbase (fun v' w' h1 h2 _ => h v' w' ?_ h2)
  · rw [add_off]; exact hy j u hu
  · rw [List.length_append, List.flatMap_append]
    simpa using h1
theorem take_len {L : List (Option Ent)} (k : Nat) : (ents (L.take k)).length ≤ L.length := by
  have := ents_len (L.take k)
  rw [List.length_take] at this
  omega
/-- What All makes: an iterator over a box, whose slice reads as these entries. -/
def AllOut (w : World) (S : List Ent) (e : Ending) (w' : World) : Prop :=
  e = .returned (.func (.func 82) #[] #[.pointer (some ⟨w.heap.size, 0, none⟩)]) ∧ ∃ A c, Boxed w' w.heap.size 79 (.slice A S.length c) ∧ RdS clF 4 w' w'.heap.size A S ∧ (∀ g, A = some g → g.block ≠ w.heap.size) ∧ Below w.heap.size w w'
set_option maxRecDepth 100000 in
theorem hsall_nil (w : World) : Calls Try.prog 43 #[.pointer none] w fun e w' => AllOut w [] e w' := by
  have hb := Boxed.new w 79 (.slice none 0 0)
  have kb := Boxed.cell hb
  have hB : Below w.heap.size w (w.alloc (.cells #[.slice none 0 0] 79)) := (Below.refl _ w).alloc (Nat.le_refl _) _
  have hs := fun W => AnyF.slices_SortFunc_none { Try.sortHs with } none 0 (.func (.func 80) #[] #[]) W
  change ∀ W, Calls Try.prog 79 _ _ _ at hs
  go_enter Try.func43, Try.ntmps43
  go_wp2_with (first
    | (go_at_call 72; refine (hsmade_nil _).mono ?_; rintro e w1 ⟨rfl, rfl⟩)
    | (go_at_call 79; refine (hs _).mono ?_; rintro e w1 ⟨rfl, rfl⟩))
  refine bodyPost_ret (results_tmp rfl _ _ _) rfl ⟨rfl, none, 0, hb, (fun h => absurd h (by simp)), (fun g e => by cases e), hB⟩
section
variable {w : World} {B0 t b : Nat} {most : Int} {L : List (Option Ent)}
set_option maxRecDepth 100000 in
set_option maxHeartbeats 2000000 in
theorem hsall (h : HTab w B0 t b most L) : Calls Try.prog 43 #[.pointer (some ⟨t, 0, none⟩)] w fun e w' => ∃ S, S.Perm (ents L) ∧ Srt S ∧ AllOut w S e w' := by
  have HH := Lib.hid h
  have k0 := h.hs.c0
  have hlen := h.len
  have hks := ents_keys h.prb
  obtain ⟨N, hNe⟩ : ∃ N, N = L.length := ⟨_, rfl⟩
  rw [← hNe] at k0 hlen
  have HNE := Lib.hid hNe
  obtain ⟨B, hBe⟩ : ∃ B, B = w.heap.size := ⟨_, rfl⟩
  have HBE := Lib.hid hBe
  have hB1 : B ≤ w.heap.size := by omega
  have hB2 : w.heap.size ≤ B := by omega
  have HK := Lib.hid hks
  have hW := Boxed.new w 79 (.slice none 0 0)
  have bW : Below w.heap.size w (w.alloc (.cells #[.slice none 0 0] 79)) := (Below.refl _ w).alloc (Nat.le_refl _) _
  have k0W : (w.alloc (.cells #[.slice none 0 0] 79)).cell? ⟨t, 0, none⟩ = some (.slice (some ⟨b, 0, none⟩) N N) := (World.cell?_alloc_lt w _ _ (heap_lt h.hs.tab)).trans k0
  have hte : 79 ≠ 143 := nat_ne (by kernel_rfl)
  clear h hks hNe
  go_enter Try.func43, Try.ntmps43
  rw [← hBe] at hW bW
  go_wp2_with (go_at_call 72; refine (hsmade t b _ _ _ k0W).mono ?_; rintro e w1 ⟨rfl, rfl⟩)
  rw [← HBE.out]
  clear hBe k0W
  generalize w.alloc (.cells #[.slice none 0 0] 79) = W at *
  go_loopw [13] (fun i wr => ∃ (k : Nat) (v : Value), k ≤ N ∧ i = .int .i64 (k : Int) ∧ Hid (Boxed wr B 79 v) ∧ Hid (wr.ownsRow B 143 4 v (ents (L.take k)).length ((ents (L.take k)).flatMap clF)) ∧ Below B w wr)
    (fun i _ => N - (intOf i).toNat)
  case atStart => exact ⟨0, _, Nat.zero_le _, rfl, Lib.hid hW, Lib.hid (World.ownsRow_nil _ _ _ _), bW⟩
  case round =>
    obtain ⟨k, v, hk, rfl, HB, HO, hbel⟩ := hrel
    clear hW bW
    have kb := HB.out.cell
    have hBz := hbel.size
    by_cases hlt : k < N
    · have hkl : k < L.length := by rw [← HNE.out]; exact hlt
      have hrow := (HH.out.hs.below (hbel.mono hB2)).at_ (plH_get hkl)
      obtain ⟨V, hV⟩ : ∃ V, V = wr.alloc (.cells (clE (plH L k)).toArray 143) := ⟨_, rfl⟩
      have HV := Lib.hid hV
      have bV : Below wr.heap.size wr V := by rw [hV]; exact (Below.refl _ wr).alloc (Nat.le_refl _) _
      have hbV : V.heap[wr.heap.size]? = some (.cells (clE (plH L k)).toArray 143 (0, 0)) := by rw [hV]; exact World.alloc_heap_new wr _
      have hOV := HO.out.alloc (.cells (clE (plH L k)).toArray 143)
      rw [← hV] at hOV
      have hBV : Boxed V B 79 v := by rw [hV]; exact HB.out.alloc _
      have HBV := Lib.hid hBV
      have HOV := Lib.hid hOV
      have kbV := hBV.cell
      have kfV := hBV.frozen
      have hVz := bV.size
      have bw : Below B w V := hbel.trans (bV.mono (Nat.le_trans hB1 hBz))
      clear hV hOV hBV
      cases hp : plH L k with
      | none =>
        rw [hp] at hrow hbV HV
        have kx0 : V.cell? ⟨wr.heap.size, 0, none⟩ = some (.bool false) := cells_at (i := 0) hbV rfl
        have HP0 := Lib.hid hp
        clear hp
        go_wp2_with (first
          | ((with_reducible show wpList _ _ _ (Oper.mk _ (Op.load 143 _) _ _ _ _ :: _) _ _); refine wpList_val rfl (run_load_hsp rfl rfl hrow rfl) ?_)
          | ((with_reducible show wpList _ _ _ (Oper.mk _ (Op.store 143 _ _) _ _ _ _ :: _) _ _); refine hsp_store_new (cs := (clE none).toArray) rfl rfl rfl rfl (clE_one _) ?_; rw [← HV.out]))
        go_roundw
        case rel => exact ⟨k + 1, v, by omega, by simp, HBV, Lib.hid (by rw [take_none hkl HP0.out]; exact HOV.out), bw⟩
        case measure => simp [intOf]; omega
      | some x =>
        rw [hp] at hrow hbV HV
        have kx0 : V.cell? ⟨wr.heap.size, 0, none⟩ = some (.bool true) := cells_at (i := 0) hbV rfl
        have HP0 := Lib.hid hp
        have hrV : V.rangeAt wr.heap.size 0 (clE (some x)) := range_heap hbV
        obtain ⟨V2, hV2⟩ : ∃ V2, V2 = V.alloc (.cells (clE (some x)).toArray 143) := ⟨_, rfl⟩
        have HV2 := Lib.hid hV2
        have hrV2 : V2.rangeAt V.heap.size 0 (clF x) := by rw [hV2]; exact range_heap (World.alloc_heap_new V _)
        have hOV2 := HOV.out.alloc (.cells (clE (some x)).toArray 143)
        rw [← hV2] at hOV2
        have hz2 : V.heap.size ≤ V2.heap.size := by rw [hV2]; simp
        have hle : (ents (L.take k)).length ≤ 1000000 := by have := take_len (L := L) k; have := HNE.out; omega
        clear hp hV2
        go_wp2_with (first
          | ((with_reducible show wpList _ _ _ (Oper.mk _ (Op.load 143 _) _ _ _ _ :: _) _ _); refine wpList_val rfl (run_load_hsp rfl rfl hrV rfl) ?_)
          | ((with_reducible show wpList _ _ _ (Oper.mk _ (Op.load 143 _) _ _ _ _ :: _) _ _); refine wpList_val rfl (run_load_hsp rfl rfl hrow rfl) ?_)
          | ((with_reducible show wpList _ _ _ (Oper.mk _ (Op.store 143 _ _) _ _ _ _ :: _) _ _); refine hsp_store_new (cs := (clE (some x)).toArray) rfl rfl rfl rfl (clE_one _) ?_; rw [← HV.out])
          | ((with_reducible show wpList _ _ _ (Oper.mk _ (Op.buildSlice _ _ _) _ _ _ _ :: _) _ _); refine list_growH rfl (run_bsH (cs := (clE (some x)).toArray) rfl rfl rfl) ?_; rw [← HV2.out])
          | (at_builtin; refine append_hF rfl _ _ rfl B _ (ents (L.take k)) rfl hOV2 V.heap.size x rfl hrV2 hle (by omega) ?_; intro v' w3 hown' hgrow; rw [HV2.out] at hgrow; obtain ⟨q1, q2, q3, q4, q5⟩ := Boxed.appended HBV.out hte HOV.out (by omega) (Nat.le_refl _) hown' hgrow; have qc := q1.cell; have qf := q1.frozen; have Q2 := Lib.hid q2; have Q3 := Lib.hid q3; clear hown' hgrow q1 q2 q3 q4; obtain ⟨A', c', rfl⟩ : ∃ A c, v' = .slice A ((ents (L.take k)).length + 1) c := (by rcases Q3.out.2 with ⟨e, h0⟩ | ⟨g, cap, cur, e, _⟩; exact absurd h0 (by simp); exact ⟨_, _, by rw [e, List.length_append]; rfl⟩)))
        go_roundw
        case rel => exact ⟨k + 1, _, by omega, by simp, Q2, Lib.hid (by rw [take_some hkl HP0.out]; exact Q3.out), bw.trans q5⟩
        case measure => simp [intOf]; omega
    · obtain rfl : N = k := by omega
      have hLk : ents (L.take N) = ents L := by rw [List.take_of_length_le (by rw [← HNE.out]; exact Nat.le_refl _)]
      rw [hLk] at HO
      have hle : (ents L).length ≤ 1000000 := by have := ents_len L; have := HNE.out; omega
      have HLE := Lib.hid hle
      clear hLk hle
      rcases HO.out.2 with ⟨e1, h0⟩ | ⟨gb, cap, cur, e1, hbase, hgb, r1, r2, r3, r4⟩
      · subst e1
        have hs := fun W => AnyF.slices_SortFunc_none { Try.sortHs with } none 0 (.func (.func 80) #[] #[]) W
        change ∀ W, Calls Try.prog 79 _ _ _ at hs
        have H0 := Lib.hid h0
        clear h0
        go_wp2_with (go_at_call 79; refine (hs _).mono ?_; rintro e w1 ⟨rfl, rfl⟩)
        have hE : ents L = [] := List.eq_nil_of_length_eq_zero H0.out
        refine bodyPost_ret (results_tmp rfl _ _ _) rfl ⟨[], by rw [hE], List.Pairwise.nil, by rw [← HBE.out]; rfl, none, 0, by rw [← HBE.out]; exact HB.out, (fun h => absurd h (by simp)), (fun g e => by cases e), hbel.mono hB2⟩
      · subst e1
        have hH := holdsF (S := ents L) hgb (by simpa using r4)
        have hsort := sortF gb cap (ents L) wr hH (heap_lt hgb) HLE.out HK.out
        have HSO := Lib.hid hsort
        obtain ⟨q, hq⟩ : ∃ q, q = (ents L).length := ⟨_, rfl⟩
        rw [← hq] at kb HSO
        have HQ := Lib.hid hq
        have hgB : gb ≠ B := fun e => by
          have h1 : wr.heap[B]? = _ := HB.out
          rw [← e, hgb] at h1
          injection h1 with h1
          injection h1 with _ h2 _
          exact hte h2.symm
        clear hH hsort hq r1 r2 r3 r4
        go_wp2_with (go_at_call 79; refine HSO.out.mono ?_; rintro e w3 ⟨rfl, S, s1, s2, s3, s4⟩; have HS := Lib.hid (show _ ∧ _ ∧ _ ∧ _ from ⟨s1, s2, s3, s4⟩); clear s1 s2 s3 s4)
        obtain ⟨s1, s2, s3, s4⟩ := HS.out
        refine bodyPost_ret (results_tmp rfl _ _ _) rfl ⟨S, s1, s2, by rw [← HBE.out]; rfl, _, cap, ?_, s3, (fun g e => by cases e; rw [← HBE.out]; exact hgB), (hbel.trans (s4.below (Nat.le_trans hB1 hBz) (fun k e => by rw [e]; exact hbase))).mono hB2⟩
        rw [← HBE.out, s1.length_eq]
        exact Boxed.keptH HB.out s4 (fun e => hgB e.symm)
end
end Go.Proofs.Ythdaclbgandmcaa

/-
  The iterator that All of layer 18's code makes; what a table that no call made answers. Conditions are each theorem's own.
-/
namespace Go.Proofs.Ythdaclbgandmcaa
open Go.RowKit Go.Shelf
attribute [local go_sem] Oper.semAt_some

/-- The cells at A's block lie as they lay. -/
def KeepA (A : Option Addr) (X Y : World) : Prop := ∀ g : Addr, A = some g → ∀ i, Y.cell? ⟨g.block, i, none⟩ = X.cell? ⟨g.block, i, none⟩
theorem KeepA.trans {A : Option Addr} {X Y Z : World} (h : KeepA A X Y) (k : KeepA A Y Z) : KeepA A X Z := fun g e i => (k g e i).trans (h g e i)
theorem KeepA.of_heap {A : Option Addr} {X Y : World} (h : ∀ g : Addr, A = some g → Y.heap[g.block]? = X.heap[g.block]?) : KeepA A X Y := fun g e _ => World.cell?_of_block (h g e)
theorem KeepA.loop {A : Option Addr} {X : World} {l : Nat} {r r' : Loop} (hl : X.heap[l]? = some (.loop r)) : KeepA A X (X.putObj l (.loop r')) := fun g _ i => KeepC.loop (ps := [⟨g.block, i, none⟩]) hl ⟨g.block, i, none⟩ (List.mem_cons_self ..)
theorem RdS.keepA {α : Type} {cl : α → List Value} {sz B : Nat} {X Y : World} {A : Option Addr} {S : List α} (h : RdS cl sz X B A S) (k : KeepA A X Y) : RdS cl sz Y B A S := fun hn => by
  obtain ⟨b, off, e, hb, hc⟩ := h hn
  exact ⟨b, off, e, hb, fun j x hx i v hv => (k _ e _).trans (hc j x hx i v hv)⟩
def encE (x : Ent) : Array Value := #[.string (strB x.key), .int .i64 x.n]
/-- What is known of an entry when it comes. -/
def GE (S : List Ent) (pre : List Ent) (x : Ent) (_ : World) : Prop := ∃ more, S = pre ++ x :: more
theorem row_ofF {w : World} {B : Nat} {A : Option Addr} {S : List Ent} {k : Nat} {x : Ent} (h : RdS clF 4 w B A S) (hx : S[k]? = some x) : ∃ b o, A = some ⟨b, o, none⟩ ∧ b < B ∧ w.rangeAt b (o + k * 4) (clE (some x)) := by
  have hk := (List.getElem?_eq_some_iff.1 hx).1
  obtain ⟨b, o, e, hb, hc⟩ := h (by omega)
  exact ⟨b, o, e, hb, hc k x hx⟩
section
variable {n : Nat} {P : Program} {ops : Array Oper} {rest : List Oper} {o : Oper} {a : Act} {w w' : World} {Q : Exit → Act → World → Prop} {v : Value}
theorem listW_valH (hg : o.guard = none) (hd : ∀ c, o.op ≠ .defer c) (hrun : (execOp a.eval o).run P w = .ok (.value v) w)
    (h : wpListIn Fence.wide n P ops Q rest (a.put o.dst v) w) : wpListIn Fence.wide n P ops Q (o :: rest) a w :=
  wpListIn_plain hg fun K hK => ⟨fun _ _ => trivial, by rw [Oper.semAt_plain _ _ _ hd, hrun]; exact hK _ _ h⟩
theorem listW_skipH (hg : o.guard = none) (hd : ∀ c, o.op ≠ .defer c) (hrun : (execOp a.eval o).run P w = .ok .skip w')
    (h : wpListIn Fence.wide n P ops Q rest (a.put o.dst undef) w') : wpListIn Fence.wide n P ops Q (o :: rest) a w :=
  wpListIn_plain hg fun K hK => ⟨fun _ _ => trivial, by rw [Oper.semAt_plain _ _ _ hd, hrun]; exact hK _ _ h⟩
end
set_option maxRecDepth 100000 in
set_option maxHeartbeats 2000000 in
theorem all2_in (m : Nat) (hm : 1 ≤ m) (l B c Bz : Nat) (A : Option Addr) (S : List Ent) (J Jx : List Ent → World → Prop) (W : World) (hJA0 : AbidesFrom W.heap.size J)
    (hY : ∀ pre x X, J pre X → GE S pre x X → YieldAt Fence.wide (m - 1) Try.prog l (encE x) X fun e Y =>
      (e = .returned (.bool true) ∧ J (pre ++ [x]) Y ∧ KeepA A X Y) ∨ (e = .returned (.bool false) ∧ Jx (pre ++ [x]) Y))
    (hbox : W.cell? ⟨B, 0, none⟩ = some (.slice A S.length c)) (hrd : RdS clF 4 W Bz A S) (hS : S.length ≤ 1000000) (hJ : J [] W) :
    CallsIn Fence.wide m Try.prog 82 #[.func (.yield l) #[] #[], .pointer (some ⟨B, 0, none⟩)] W fun e W' => (∃ v, e = .returned v) ∧
      ((∃ xs, xs = S ∧ J xs W') ∨ (∃ pre, (∃ more, S = pre ++ more) ∧ Jx pre W')) := by
  have hJA := hJA0
  obtain ⟨N, hNe⟩ : ∃ N, N = S.length := ⟨_, rfl⟩
  rw [← hNe] at hbox hS
  have HN := Lib.hid hNe
  clear hJA0 hNe
  refine callsIn_of_wp Try.func82 rfl trivial ?_ rfl
  simp only [Try.ntmps82, List.size_toArray, List.length_cons, List.length_nil, Nat.reduceAdd, Nat.reduceSub, Array.replicate_succ, Array.replicate_zero, List.push_toArray, List.append_toArray, List.nil_append, List.cons_append]
  gi_wp2
  gi_loopw [7] (fun i wr => ∃ (k : Nat) (pre : List Ent), k ≤ N ∧ i = .int .i64 (k : Int) ∧ Hid (pre = S.take k) ∧ J pre wr ∧ Hid (RdS clF 4 wr Bz A S))
    (fun i _ => N - (intOf i).toNat)
  case atStart => exact ⟨0, [], Nat.zero_le _, rfl, Lib.hid rfl, hJ, Lib.hid hrd⟩
  case round =>
    obtain ⟨k, pre, hk, rfl, HP, hJs, HR⟩ := hrel
    by_cases hlt : k < N
    · obtain ⟨x, hx⟩ : ∃ x, S[k]? = some x := ⟨_, List.getElem?_eq_getElem (by rw [← HN.out]; exact hlt)⟩
      obtain ⟨b1, o1, rfl, hb1, hrow⟩ := row_ofF HR.out hx
      have hsp : S = pre ++ x :: S.drop (k + 1) := by
        have hk' := (List.getElem?_eq_some_iff.1 hx)
        rw [HP.out]
        have h1 := List.take_append_drop k S
        rw [List.drop_eq_getElem_cons hk'.1, hk'.2] at h1
        exact h1.symm
      obtain ⟨V, hV⟩ : ∃ V, V = wr.alloc (.cells (clE (some x)).toArray 143) := ⟨_, rfl⟩
      have HV := Lib.hid hV
      have bV : Below wr.heap.size wr V := by rw [hV]; exact (Below.refl _ wr).alloc (Nat.le_refl _) _
      have hbV : V.heap[wr.heap.size]? = some (.cells (clE (some x)).toArray 143 (0, 0)) := by rw [hV]; exact World.alloc_heap_new wr _
      have kx2 : V.cell? ⟨wr.heap.size, 2, none⟩ = some (.string (strB x.key)) := cells_at (i := 2) hbV rfl
      have kx3 : V.cell? ⟨wr.heap.size, 3, none⟩ = some (.int .i64 x.n) := cells_at (i := 3) hbV rfl
      have hJV := hJA pre wr V none hJs (grown_none bV) (fun r e => by cases e)
      have hzV := bV.size
      have hb1w := cell_block (hrow 0 _ rfl)
      have hRV := Lib.hid (HR.out.keepA (KeepA.of_heap (X := wr) (Y := V) (fun g e => by cases e; exact bV.block b1 hb1w)))
      have hY2 := hY pre x V hJV ⟨_, hsp⟩
      have HSP := Lib.hid (show S.take (k + 1) = pre ++ [x] by rw [List.take_add_one, hx, HP.out]; rfl)
      have HSQ := Lib.hid (show S = (pre ++ [x]) ++ S.drop (k + 1) by rw [List.append_assoc]; exact hsp)
      obtain ⟨fn, tmps, assign, body, hy, hR⟩ := hY2
      dsimp only [encE] at hy
      clear hV hx hsp hbV
      gi_wp2_with (first | ((with_reducible show wpListIn _ _ _ _ _ (Oper.mk _ (Op.load 143 _) _ _ _ _ :: _) _ _); refine listW_valH rfl (fun c h => by cases h) (run_load_hsp rfl rfl hrow rfl) ?_) | ((with_reducible show wpListIn _ _ _ _ _ (Oper.mk _ (Op.store 143 _ _) _ _ _ _ :: _) _ _); refine listW_skipH rfl (fun c h => by cases h) (run_storehsp (cs := (clE (some x)).toArray) rfl rfl rfl (World.alloc_heap_new wr _) rfl rfl (clE_one _)) ?_; rw [World.setRow_alloc_new]; rw [← HV.out]))
      refine hR.mono ?_
      rintro e W3 (⟨rfl, hJ3, hk3⟩ | ⟨rfl, hJx3⟩)
      · clear hy hR
        have hR3 := Lib.hid (hRV.out.keepA hk3)
        gi_wp2
        go_roundw
        case rel => exact ⟨k + 1, pre ++ [x], by omega, by simp, Lib.hid HSP.out.symm, hJ3, hR3⟩
        case measure => simp [intOf]; omega
      · clear hy hR
        gi_wp2
        refine bodyPost_ret (results_none rfl _ _ _) rfl ?_
        exact ⟨⟨_, rfl⟩, .inr ⟨_, ⟨_, HSQ.out⟩, hJx3⟩⟩
    · obtain rfl : N = k := by omega
      gi_wp2
      try rw [Exit.noGoto_normal]
      go_end0
      exact ⟨⟨_, rfl⟩, .inl ⟨_, by rw [HP.out, List.take_of_length_le (by rw [← HN.out]; exact Nat.le_refl _)], hJs⟩⟩
theorem all2_seq (B c Bz : Nat) (A : Option Addr) (S : List Ent) (W : World) (hbox : W.cell? ⟨B, 0, none⟩ = some (.slice A S.length c)) (hrd : RdS clF 4 W Bz A S) (hBz : Bz ≤ W.heap.size) (hS : S.length ≤ 1000000) (m : Nat) (hm : 1 ≤ m) :
    SeqTold m Try.prog 82 #[.pointer (some ⟨B, 0, none⟩)] encE (GE S) (KeepA A) (fun xs => xs = S) (fun pre => ∃ more, S = pre ++ more) W := by
  intro l J Jx V hV hJ _ hY h0
  exact all2_in m hm l B c Bz A S J Jx V hJ hY ((hV.cell (p := ⟨B, 0, none⟩) (cell_block hbox)).trans hbox) (hrd.below (hV.mono hBz)) hS h0
theorem cell1h {fn : Func} {p : Tmp} {tmps : Array Value} {w : World} {g : Nat} {z : Value} (h : fn.results = #[.cell p 4]) (hp : tmps.getD p undef = .pointer (some ⟨g, 0, none⟩)) (h0 : Boxed w g 4 z) :
    (results fn tmps).run Try.prog w = .ok z w := by
  have hp' : tmps[p]?.getD undef = .pointer (some ⟨g, 0, none⟩) := by simpa using hp
  simp [results, h, hp', asAddr, loadv_bool h0]
theorem hsput_nil (k : ByteArray) (n : Int) (w : World) : Calls Try.prog 34 #[.pointer none, .string k, .int .i64 n] w fun e w' => e = .returned (.int .i64 2) ∧ w = w' := by
  go_enter Try.func34, Try.ntmps34
  go_wp2_with (go_at_call 72; refine (hsmade_nil _).mono ?_; rintro e w1 ⟨rfl, rfl⟩)
  go_ret
  exact ⟨rfl, rfl⟩
theorem hsput_zero (g : Nat) (k : ByteArray) (n : Int) (w : World) (h : w.cell? ⟨g, 0, none⟩ = some (.slice none 0 0)) : Calls Try.prog 34 #[.pointer (some ⟨g, 0, none⟩), .string k, .int .i64 n] w fun e w' => e = .returned (.int .i64 2) ∧ w = w' := by
  go_enter Try.func34, Try.ntmps34
  go_wp2_with (go_at_call 72; refine (hsmade_zero g _ h).mono ?_; rintro e w1 ⟨rfl, rfl⟩)
  go_ret
  exact ⟨rfl, rfl⟩
theorem hsget_zero (g : Nat) (k : ByteArray) (w : World) (h : w.cell? ⟨g, 0, none⟩ = some (.slice none 0 0)) : Calls Try.prog 38 #[.pointer (some ⟨g, 0, none⟩), .string k] w fun e w' => e = .returned (.tuple #[.int .i64 0, .bool false]) ∧ w = w' := by
  go_enter Try.func38, Try.ntmps38
  go_wp2_with (go_at_call 72; refine (hsmade_zero g _ h).mono ?_; rintro e w1 ⟨rfl, rfl⟩)
  exact bodyPost_ret (results_tmp2 rfl _ _ _) rfl ⟨rfl, rfl⟩
theorem hsdel_nil (k : ByteArray) (w : World) : Calls Try.prog 36 #[.pointer none, .string k] w fun e w' => e = .returned (.bool false) ∧ w = w' := by
  go_enter Try.func36, Try.ntmps36
  go_wp2_with (go_at_call 72; refine (hsmade_nil _).mono ?_; rintro e w1 ⟨rfl, rfl⟩)
  go_ret
  exact ⟨rfl, rfl⟩
end Go.Proofs.Ythdaclbgandmcaa
