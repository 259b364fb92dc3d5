/-
  Contracts and lemmas on which the proofs of this seat stand (several texts in one). Conditions are each theorem's own.
-/
import Derived.Test.YtodlfdnegcfhcaaNb2
import Derived.Test.YtodlfdnegcfhcaaNa3
import Derived.Test.YtodlfdnegcfhcaaNa4

/-
  Contracts of slices.Index, slices.Contains over integers; of icmp's among, Fault, Query, and the document's. Conditions are each theorem's own.
-/
namespace Go.Proofs.Ytodlfdnegcfhcaa
open Go.RowKit

theorem iindex_none (g n : Nat) (zs : List Int) (x : Int) (w : World) (hn : n ≤ 1000) (h : ∀ j, j < n → w.cell? ⟨g, j, none⟩ = some (.int .i64 (zs.getD j 0))) (hx : ∀ j, j < n → (x == zs.getD j 0) = false) :
    Calls Try.prog 79 #[.slice (some ⟨g, 0, none⟩) n n, .int .i64 x] w fun e w' => e = .returned (.int .i64 (-1)) ∧ w = w' := by
  have H := Lib.hid h
  have HX := Lib.hid hx
  clear h hx
  go_enter Try.func79, Try.ntmps79
  go_wp2
  go_loop [8] (fun i => ∃ k : Nat, k ≤ n ∧ i = .int .i64 k) (fun i => n - (intOf i).toNat)
  case atStart => exact ⟨0, Nat.zero_le _, rfl⟩
  case round =>
    obtain ⟨k, hk, rfl⟩ := hrel
    by_cases hlt : k < n
    · have hc := H.out k hlt
      have hd := HX.out k hlt
      generalize zs.getD k 0 = y at hc hd
      go_wp2
      go_round
      case rel => exact ⟨k + 1, by omega, by simp⟩
      case measure => simp [intOf]; omega
    · obtain rfl : k = n := by omega
      go_wp2
      go_ret
      exact ⟨rfl, rfl⟩
theorem iindex_some (g n k0 : Nat) (zs : List Int) (x : Int) (w : World) (hn : n ≤ 1000) (hk0 : k0 < n) (h : ∀ j, j < n → w.cell? ⟨g, j, none⟩ = some (.int .i64 (zs.getD j 0))) (hx : ∀ j, j < k0 → (x == zs.getD j 0) = false) (h0 : (x == zs.getD k0 0) = true) :
    Calls Try.prog 79 #[.slice (some ⟨g, 0, none⟩) n n, .int .i64 x] w fun e w' => e = .returned (.int .i64 (k0 : Int)) ∧ w = w' := by
  have H := Lib.hid h
  have HX := Lib.hid hx
  have H0 := Lib.hid h0
  clear h hx h0
  go_enter Try.func79, Try.ntmps79
  go_wp2
  go_loop [8] (fun i => ∃ k : Nat, k ≤ k0 ∧ i = .int .i64 k) (fun i => n - (intOf i).toNat)
  case atStart => exact ⟨0, Nat.zero_le _, rfl⟩
  case round =>
    obtain ⟨k, hk, rfl⟩ := hrel
    have hlt : k < n := by omega
    have hc := H.out k hlt
    by_cases hlt2 : k < k0
    · have hd := HX.out k hlt2
      generalize zs.getD k 0 = y at hc hd
      go_wp2
      go_round
      case rel => exact ⟨k + 1, by omega, by simp⟩
      case measure => simp [intOf]; omega
    · obtain rfl : k = k0 := by omega
      have hd := H0.out
      generalize zs.getD k 0 = y at hc hd
      go_wp2
      go_ret
      exact ⟨rfl, rfl⟩
theorem first_in (x : Int) : ∀ (zs : List Int), x ∈ zs → ∃ k, k < zs.length ∧ (∀ j, j < k → (x == zs.getD j 0) = false) ∧ (x == zs.getD k 0) = true
  | [], h => by cases h
  | z :: l, h => by
    by_cases e : x = z
    · exact ⟨0, by simp, fun j hj => absurd hj (Nat.not_lt_zero j), by simp [e]⟩
    · obtain ⟨k, h1, h2, h3⟩ := first_in x l (by rcases List.mem_cons.1 h with h | h; exact absurd h e; exact h)
      refine ⟨k + 1, by simp; omega, fun j hj => ?_, by simpa using h3⟩
      cases j with
      | zero => simpa using e
      | succ j => simpa using h2 j (by omega)
theorem icontains_any (g : Nat) (zs : List Int) (x : Int) (w : World) (hn : zs.length ≤ 1000) (h : w.rangeAt g 0 (zs.map (Value.int .i64))) :
    Calls Try.prog 77 #[.slice (some ⟨g, 0, none⟩) zs.length zs.length, .int .i64 x] w fun e w' => e = .returned (.bool (decide (x ∈ zs))) ∧ w = w' := by
  have hc : ∀ j, j < zs.length → w.cell? ⟨g, j, none⟩ = some (.int .i64 (zs.getD j 0)) := fun j hj => by
    have := h j (.int .i64 (zs.getD j 0)) (by simp [List.getD_eq_getElem?_getD, hj])
    rwa [Nat.zero_add] at this
  by_cases hm : x ∈ zs
  · obtain ⟨k, h1, h2, h3⟩ := first_in x zs hm
    have c := iindex_some g zs.length k zs x w hn h1 hc h2 h3
    have hD := Lib.hid (show decide (x ∈ zs) = true by simpa using hm)
    clear h hc h2 h3 hm
    go_enter Try.func77, Try.ntmps77
    go_wp2_with (go_at_call 79; refine c.mono ?_; rintro e w' ⟨rfl, rfl⟩)
    go_ret
    exact ⟨ret_bool (by rw [hD.out]), rfl⟩
  · have c := iindex_none g zs.length zs x w hn hc (fun j hj => by
      rw [List.getD_eq_getElem?_getD, List.getElem?_eq_getElem hj]
      simp only [Option.getD_some, beq_eq_false_iff_ne]
      intro e; exact hm (e ▸ List.getElem_mem hj))
    have hD := Lib.hid (show decide (x ∈ zs) = false by simpa using hm)
    clear h hc hm
    go_enter Try.func77, Try.ntmps77
    go_wp2_with (go_at_call 79; refine c.mono ?_; rintro e w' ⟨rfl, rfl⟩)
    go_ret
    exact ⟨ret_bool (by rw [hD.out]), rfl⟩
theorem range_ints (w : World) (zs : List Int) (t : TypeId) : (w.alloc (.cells (zs.map (Value.int .i64)).toArray t)).rangeAt w.heap.size 0 (zs.map (Value.int .i64)) := fun j v hj => by
  rw [Nat.zero_add, World.cell?_alloc_new, ← hj, List.getElem?_toArray]
theorem among_new (zs : List Int) (x : Int) (cs : Array Value) (n : Nat) (t : TypeId) (w : World) (hc : cs = (zs.map (Value.int .i64)).toArray) (hn : n = zs.length) (hl : zs.length ≤ 1000) :
    Calls Try.prog 73 #[.int .i64 x, .slice (some ⟨w.heap.size, 0, none⟩) n n] (w.alloc (.cells cs t)) fun e w' => e = .returned (.bool (decide (x ∈ zs))) ∧ Below w.heap.size w w' := by
  subst hc; subst hn
  have c := icontains_any w.heap.size zs x _ hl (range_ints w zs t)
  have hb : Below w.heap.size w (w.alloc (.cells (zs.map (Value.int .i64)).toArray t)) := (Below.refl _ w).alloc (Nat.le_refl _) _
  generalize decide (x ∈ zs) = D at c ⊢
  generalize w.alloc (.cells (zs.map (Value.int .i64)).toArray t) = W at *
  go_enter Try.func73, Try.ntmps73
  go_wp2_with (go_at_call 77; refine c.mono ?_; rintro e w' ⟨rfl, rfl⟩)
  go_ret
  exact ⟨rfl, hb⟩
theorem cIquery (k : Int) (w : World) : Calls Try.prog 59 #[.int .i64 k] w fun e w' => e = .returned (.bool (qryI k)) ∧ Below w.heap.size w w' := by
  obtain ⟨D, hD⟩ : ∃ D, D = qryI k := ⟨_, rfl⟩
  have HD := Lib.hid (show decide (k ∈ [8, 0]) = D by rw [hD]; rfl)
  rw [← hD]; clear hD
  go_enter Try.func59, Try.ntmps59
  go_wp2_with (go_at_call 73; refine (among_new [8, 0] k _ 2 _ w (by rfl) rfl (by simp)).mono ?_; rintro e w' ⟨rfl, x1⟩; rw [HD.out])
  go_ret
  exact ⟨rfl, x1⟩
end Go.Proofs.Ytodlfdnegcfhcaa

/-
  Contracts of layer 9's Check, numbers, Same, Fault, Query and ID, the program's and the document's; of layer 10's Fault. Conditions are each theorem's own.
-/
namespace Go.Proofs.Ytodlfdnegcfhcaa
open Go.RowKit

theorem freshI_any (A : Option Addr) (bs : List UInt8) (c B : Nat) (w : World) (h : Arg w B A c bs) (hl : bs.length ≤ 1099511627776) :
    Calls Try.prog 72 #[.slice A bs.length c] w fun e w' => ∃ v, e = .returned v ∧ Made w w' v bs := by
  have hr := h.rd
  have hn := h.none_
  go_enter Try.func72, Try.ntmps72
  go_wp2_with (at_builtin; refine append_rd rfl _ _ rfl w.heap.size _ _ _ rfl (World.ownsRow_nil _ _ _ _) B A c bs rfl hn hr (by omega) (Nat.le_refl _) ?_; intro v1 w1 hown hgrow)
  go_ret
  have hb1 : Below w.heap.size w w1 := (Below.refl _ w).grown hgrow (Nat.le_refl _) (fun k hk => by cases (show (none : Option Nat) = some k from hk))
  exact ⟨_, rfl, Made.of_own (by simpa using hown) hb1⟩
section
variable (q : PI) (A : Option Addr) (c : Nat) (w : World)
def numsI (q : PI) : List Int := [q.typ, q.code, q.rest]
theorem idI_eq (n : Int) : bits .and .i64 (n / 65536) 65535 = n / 65536 % 65536 := and_any 16 (n / 65536) (by decide)
theorem cIid : Calls Try.prog 107 #[isv q A c] w fun e w' => e = .returned (.int .i64 (idI q)) ∧ Below w.heap.size w w' := by
  have hB : Below w.heap.size w (w.alloc (.cells (isa q A c) 104)) := (Below.refl w.heap.size w).alloc (Nat.le_refl _) _
  have hAt := Atis.new (q := q) (A := A) (c := c) w
  have hz : w.heap.size < (w.alloc (.cells (isa q A c) 104)).heap.size := by simp
  rw [isv_eq]
  have H := Lib.hid (idI_eq q.rest)
  have k2 := hAt.rest
  go_enter Try.func107, Try.ntmps107
  go_wp2_with fail
  go_ret
  exact ⟨ret_int H.out, hB⟩
end
theorem sameI_nums (q r : PI) : sameI q r = (decide (numsI q = numsI r) && decide (q.dat = r.dat)) := by
  rw [sameI, Bool.eq_iff_iff]; simp [numsI, and_assoc]
section
variable (q r : PI) (A : Option Addr) (c : Nat) (X : Option Addr) (d B : Nat) (w : World)
end
end Go.Proofs.Ytodlfdnegcfhcaa

/-
  Contracts of layer 9's buildHead, Build, Bytes, the program's and the document's. Conditions are each theorem's own.
-/
namespace Go.Proofs.Ytodlfdnegcfhcaa
open Go.RowKit

theorem arg_two (W : World) (t : TypeId) (x y : UInt8) {m n : Int} (h : m = (x.toNat : Int)) (h' : n = (y.toNat : Int)) : Arg (W.alloc (.cells #[.int .u8 m, .int .u8 n] t)) (W.heap.size + 1) (some ⟨W.heap.size, 0, none⟩) 2 [x, y] :=
  ⟨Rd.of_block (World.alloc_heap_new W _) (Nat.lt_succ_self _) 0 (fun j hj => by
    have : j = 0 ∨ j = 1 := by have := hj; simp at this; omega
    rcases this with rfl | rfl
    · subst h; rfl
    · subst h'; rfl), by simp, fun e => by cases e⟩
section
variable (q : PI) (A : Option Addr) (c : Nat) (w : World)
end
end Go.Proofs.Ytodlfdnegcfhcaa

/-
  Contracts of layer 9's Build, the program's and the document's. Conditions are each theorem's own.
-/
namespace Go.Proofs.Ytodlfdnegcfhcaa
open Go.RowKit

theorem of_two (A : Option Addr) (a b : List UInt8) (c B : Nat) (N : Int) (hN : Hid (N = 65535 - fold (psum [a, b]))) (w : World) (h : Rd2 w B A [a, b]) (hB : B ≤ w.heap.size) (hl : a.length + b.length ≤ 1099511627000) :
    Calls Try.prog 30 #[.slice A 2 c] w fun x w' => x = .returned (.int .i64 N) ∧ Below w.heap.size w w' := by
  have h1 := of_any A [a, b] c B w h hB (by rw [bulk2]; omega) (by simp)
  rw [← hN.out] at h1
  exact h1
section
variable (q : PI) (A : Option Addr) (c : Nat) (w : World)
end
end Go.Proofs.Ytodlfdnegcfhcaa

/-
  Contracts of layer 9's Parse, the program's and the document's, and of its Read. Conditions are each theorem's own.
-/
namespace Go.Proofs.Ytodlfdnegcfhcaa
open Go.RowKit

section
variable (b : List UInt8) (A : Option Addr) (c : Nat) (w : World)
set_option maxRecDepth 100000 in
set_option maxHeartbeats 2000000 in
theorem cIparse (B : Nat) (hR : Arg w B A c b) (hB : B ≤ w.heap.size) (hl : b.length ≤ 1000000) :
    Calls Try.prog 58 #[.slice A b.length c] w fun e w' => ∃ P p, e = .returned (.tuple #[isv (prsI [] b) P p, .int .i64 (badI [] b)]) ∧ Made w w' (.slice P (prsI [] b).dat.length p) (prsI [] b).dat := by
  have hcap := hR.cap
  have hOR0 := OwnR.new w (isa isz none 0) 104
  by_cases h8 : b.length < 8
  · have d8 : decide ((b.length : Int) < 8) = true := by simp; omega
    have HE := Lib.hid (show badI [] b = 3 by rw [badI, if_pos h8])
    have HV := Lib.hid (show prsI [] b = isz by rw [prsI, HE.out]; rfl)
    go_enter Try.func58, Try.ntmps58
    go_upto_region 1 with fail
    have hOR : OwnR w 104 4 (w.alloc (.cells #[.int .i64 0, .int .i64 0, .int .i64 0, .slice none 0 0] 104)) := hOR0
    clear hOR0
    generalize w.alloc (.cells #[.int .i64 0, .int .i64 0, .int .i64 0, .slice none 0 0] 104) = W at *
    obtain ⟨old, hold, hgo⟩ := id hOR.2
    go_wp2_with (first | ((with_reducible show wpList _ _ _ (Oper.mk _ (Op.store 104 _ _) _ _ _ _ :: _) _ _); refine is_store (g := w.heap.size) (cs := isa isz none 0) rfl rfl hgo hold rfl (is_one _ _ _) ?_))
    exact bodyPost_ret (res2 rfl rfl (is_load_run (setRow_heap _ _ _ _ _ _ hgo) rfl)) rfl ⟨none, 0, by rw [HV.out, HE.out]; rfl, by rw [HV.out]; exact Made.nil _ _ (below_row hOR.b (by omega))⟩
  · have d8 : decide ((b.length : Int) < 8) = false := by simp; omega
    obtain ⟨b0, off, rfl, hbB, hcell⟩ := hR.rd (by omega)
    have kc0 := hcell 0 (by omega)
    have kc1 := hcell 1 (by omega)
    clear hcell
    have G4 := Lib.hid (show getV b 4 4 = n4 b 4 from get_four (b := b) (i := 4) (by omega))
    obtain ⟨X0, e0⟩ : ∃ x, x = byt b 0 := ⟨_, rfl⟩
    obtain ⟨X1, e1⟩ : ∃ x, x = byt b 1 := ⟨_, rfl⟩
    obtain ⟨X4, e4⟩ : ∃ x, x = n4 b 4 := ⟨_, rfl⟩
    obtain ⟨D, eD⟩ : ∃ l, l = b.drop 8 := ⟨_, rfl⟩
    have HDl := Lib.hid (show D.length = b.length - 8 by rw [eD]; simp)
    have hDD : Arg w B (cutA (some ⟨b0, off, none⟩) c 8) (c - 8) D := by rw [eD]; exact hR.cut_lo 8
    have HR := Lib.hid (show rawI b = ⟨X0, X1, X4, D⟩ by rw [rawI, e0, e1, e4, eD])
    have HW0 := Lib.hid (IntWalk.i64_in X0 (by have := byt_lo b 0; have := byt_hi b 0; omega))
    have HW1 := Lib.hid (IntWalk.i64_in X1 (by have := byt_lo b 1; have := byt_hi b 1; omega))
    rw [← e0] at kc0; rw [← e1] at kc1; rw [← e4] at G4
    clear e0 e1 e4 eD
    go_enter Try.func58, Try.ntmps58
    go_upto_region 1 with fail
    have hOR : OwnR w 104 4 (w.alloc (.cells #[.int .i64 0, .int .i64 0, .int .i64 0, .slice none 0 0] 104)) := hOR0
    clear hOR0
    generalize w.alloc (.cells #[.int .i64 0, .int .i64 0, .int .i64 0, .slice none 0 0] 104) = W at *
    obtain ⟨old, hold, hgo⟩ := id hOR.2
    have hzW := hOR.lt
    have hR1 := hR.below (hOR.b.mono hB)
    by_cases hM : 65535 < b.length
    · have dM : decide (65535 < (b.length : Int)) = true := by simp; omega
      have HE := Lib.hid (show badI [] b = 6 by rw [badI, if_neg h8, if_pos hM])
      have HV := Lib.hid (show prsI [] b = isz by rw [prsI, HE.out]; rfl)
      go_wp2_with (first | ((with_reducible show wpList _ _ _ (Oper.mk _ (Op.store 104 _ _) _ _ _ _ :: _) _ _); refine is_store (g := w.heap.size) (cs := isa isz none 0) rfl rfl hgo hold rfl (is_one _ _ _) ?_))
      exact bodyPost_ret (res2 rfl rfl (is_load_run (setRow_heap _ _ _ _ _ _ hgo) rfl)) rfl ⟨none, 0, by rw [HV.out, HE.out]; rfl, by rw [HV.out]; exact Made.nil _ _ (below_row hOR.b (by omega))⟩
    · have dM : decide (65535 < (b.length : Int)) = false := by simp; omega
      obtain ⟨RB, hRB⟩ : ∃ r, rightB [b] = r := ⟨_, rfl⟩
      have HN := Lib.hid hRB
      clear hRB
      cases RB
      · skip
        have HE := Lib.hid (show badI [] b = 5 by rw [badI, if_neg h8, if_neg hM, rightB_nil, HN.out]; rfl)
        have HV := Lib.hid (show prsI [] b = isz by rw [prsI, HE.out]; rfl)
        go_wp2_with (first | ((with_reducible show wpList _ _ _ (Oper.mk _ (Op.store 104 _ _) _ _ _ _ :: _) _ _); refine is_store (g := w.heap.size) (cs := isa isz none 0) rfl rfl hgo2 hold2 rfl (is_one _ _ _) ?_) | (go_at_call 26; refine (right_one (some ⟨W.heap.size, 0, none⟩) b 1 (W.heap.size + 1) _ (Rd2.one (World.alloc_heap_new W _) (Nat.lt_succ_self _) ((hR1.alloc (by omega) _).more (by omega))) (by simp) (by omega)).mono ?_; rintro e wq ⟨rfl, xq⟩; rw [HN.out]; have hOq := (hOR.alloc (.cells #[.slice (some ⟨b0, off, none⟩) b.length c] 22)).step xq; obtain ⟨old2, hold2, hgo2⟩ := id hOq.2))
        exact bodyPost_ret (res2 rfl rfl (is_load_run (setRow_heap _ _ _ _ _ _ hgo2) rfl)) rfl ⟨none, 0, by rw [HV.out, HE.out]; rfl, by rw [HV.out]; exact Made.nil _ _ (below_row hOq.b (by omega))⟩
      · have HE := Lib.hid (show badI [] b = 0 by rw [badI, if_neg h8, if_neg hM, rightB_nil, HN.out]; rfl)
        have HV := Lib.hid (show prsI [] b = ⟨X0, X1, X4, D⟩ by rw [prsI, if_pos HE.out, HR.out])
        go_upto_region 8 with (first
          | (go_at_call 26; refine (right_one (some ⟨W.heap.size, 0, none⟩) b 1 (W.heap.size + 1) _ (Rd2.one (World.alloc_heap_new W _) (Nat.lt_succ_self _) ((hR1.alloc (by omega) _).more (by omega))) (by simp) (by omega)).mono ?_; rintro e wq ⟨rfl, xq⟩; rw [HN.out]; have hOq := (hOR.alloc (.cells #[.slice (some ⟨b0, off, none⟩) b.length c] 22)).step xq; obtain ⟨old2, hold2, hgo2⟩ := id hOq.2)
          | (go_at_call 19; refine (get_any (some ⟨b0, off, none⟩) b c B 4 4 _ (hR.below (hOq.b.mono hB)).rd (by omega) hcap).mono ?_; rintro e w' ⟨rfl, rfl⟩; rw [show getV b 4 4 = X4 from G4.out]))
        have kc0 := kc0; have kc1 := kc1
        refine wp_region_held_drew (S := OwnR w 104 4) (by kernel_rfl) hOq.drew (fun hS => ?_)
        refine held_pure (i := 0) (oi := ⟨some 27, _, _, _, _, _⟩) rfl (by kernel_rfl) (by kernel_rfl) (by kernel_rfl) (fun _ _ _ h => h) (by rfl) (v := ?_) (fun w hSw => ?_) hS (fun hS => ?_)
        rotate_left
        · go_simp; try with_reducible rfl
        try go_frame
        refine held_pure (i := 1) (oi := ⟨some 28, _, _, _, _, _⟩) rfl (by kernel_rfl) (by kernel_rfl) (by kernel_rfl) (fun _ _ _ h => h) (by rfl) (v := Value.pointer (some ⟨b0, off, none⟩)) (fun w hSw => by go_simp; (intro hx; exfalso; first | omega | (subst hx; simp at *))) hS (fun hS => ?_)
        try go_frame
        refine held_pure (i := 2) (oi := ⟨some 29, _, _, _, _, _⟩) rfl (by kernel_rfl) (by kernel_rfl) (by kernel_rfl) (fun _ _ _ h => h) (by rfl) (fun w hSw => run_load_byte rfl rfl ((hSw.b.cell (Nat.lt_of_lt_of_le hbB hB)).trans kc0)) hS (fun hS => ?_)
        try go_frame
        refine held_pure (i := 3) (oi := ⟨some 30, _, _, _, _, _⟩) rfl (by kernel_rfl) (by kernel_rfl) (by kernel_rfl) (fun _ _ _ h => h) (by rfl) (v := .int .i64 X0) (fun w hSw => by go_simp; exact HW0.out) hS (fun hS => ?_)
        try go_frame
        refine held_pure (i := 4) (oi := ⟨some 31, _, _, _, _, _⟩) rfl (by kernel_rfl) (by kernel_rfl) (by kernel_rfl) (fun _ _ _ h => h) (by rfl) (v := ?_) (fun w hSw => ?_) hS (fun hS => ?_)
        rotate_left
        · go_simp; try with_reducible rfl
        try go_frame
        refine held_pure (i := 5) (oi := ⟨some 32, _, _, _, _, _⟩) rfl (by kernel_rfl) (by kernel_rfl) (by kernel_rfl) (fun _ _ _ h => h) (by rfl) (v := Value.pointer (some ⟨b0, off + 1, none⟩)) (fun w hSw => by go_simp; exact fun hx => absurd hx (by omega)) hS (fun hS => ?_)
        try go_frame
        refine held_pure (i := 6) (oi := ⟨some 33, _, _, _, _, _⟩) rfl (by kernel_rfl) (by kernel_rfl) (by kernel_rfl) (fun _ _ _ h => h) (by rfl) (fun w hSw => run_load_byte rfl rfl ((hSw.b.cell (Nat.lt_of_lt_of_le hbB hB)).trans kc1)) hS (fun hS => ?_)
        try go_frame
        refine held_pure (i := 7) (oi := ⟨some 34, _, _, _, _, _⟩) rfl (by kernel_rfl) (by kernel_rfl) (by kernel_rfl) (fun _ _ _ h => h) (by rfl) (v := .int .i64 X1) (fun w hSw => by go_simp; exact HW1.out) hS (fun hS => ?_)
        try go_frame
        refine held_pure (i := 8) (oi := ⟨some 35, _, _, _, _, _⟩) rfl (by kernel_rfl) (by kernel_rfl) (by kernel_rfl) (fun _ _ _ h => h) (by rfl) (v := ?_) (fun w hSw => ?_) hS (fun hS => ?_)
        rotate_left
        · go_simp; try with_reducible rfl
        try go_frame
        refine held_pure (i := 9) (oi := ⟨some 36, _, _, _, _, _⟩) rfl (by kernel_rfl) (by kernel_rfl) (by kernel_rfl) (fun _ _ _ h => h) (by rfl) (v := ?_) (fun w hSw => ?_) hS (fun hS => ?_)
        rotate_left
        · go_simp; try with_reducible rfl
        try go_frame
        refine held_pure (i := 10) (oi := ⟨some 37, _, _, _, _, _⟩) rfl (by kernel_rfl) (by kernel_rfl) (by kernel_rfl) (fun _ _ _ h => h) (by rfl) (fun w hSw => run_cut_l rfl rfl (l := 8) rfl (by omega) (m := D.length) (by have := HDl.out; omega)) hS (fun hS => ?_)
        try go_frame
        refine wpAnyH_ready (rs := [11]) (by kernel_rfl) (by simp) (AllReadyH.cons (o := ⟨some 38, _, _, _, _, _⟩) rfl (fun K hK => ?_) AllReadyH.nil)
        rw [if_pos (by rfl)]
        go_simp
        refine (freshI_any (cutA (some ⟨b0, off, none⟩) c 8) D (c - 8) B _ (hDD.below (hS.b.mono hB)) (by have := HDl.out; omega)).mono ?_
        rintro e y5 ⟨v5, rfl, m5⟩
        obtain ⟨P5, p5, rfl, g5, owm5, x5⟩ := made_shape m5
        have owm5 := own_base owm5 hS.lt
        show K _ _
        refine hK.out _ _ (hS.step x5) (fun hS => ?_)
        clear hK K
        try go_frame
        refine held_pure (i := 12) (oi := ⟨some 39, _, _, _, _, _⟩) rfl (by kernel_rfl) (by kernel_rfl) (by kernel_rfl) (fun _ _ _ h => h) (by rfl) (v := ?_) (fun w hSw => ?_) hS (fun hS => ?_)
        rotate_left
        · go_simp; try with_reducible rfl
        try go_frame
        refine wpAnyH_ready (rs := [13]) (by kernel_rfl) (by simp) (AllReadyH.cons (o := ⟨none, _, _, _, _, _⟩) rfl (fun K hK => ?_) AllReadyH.nil)
        rw [if_pos (by rfl)]
        obtain ⟨old, hold, hgo⟩ := hS.2
        have hrow := hS.row (isa ⟨X0, X1, X4, D⟩ P5 p5) rfl
        refine wp_store_row 104 _ _ rfl w.heap.size (isa ⟨X0, X1, X4, D⟩ P5 p5) rfl rfl 104 old hgo (by kernel_rfl) hold (is_one _ _ _) ?_
        have hgz := setRow_heap _ _ _ (isa ⟨X0, X1, X4, D⟩ P5 p5) _ _ hgo
        refine hK.out _ _ hrow (fun hS => ?_)
        clear hK K
        try go_frame
        refine held_pure (i := 14) (oi := ⟨some 3, _, _, _, _, _⟩) rfl (by kernel_rfl) (by kernel_rfl) (by kernel_rfl) (fun _ _ _ h => h) (by rfl) (v := ?_) (fun w hSw => ?_) hS (fun hS => ?_)
        rotate_left
        · go_simp; try with_reducible rfl
        try go_frame
        refine wpAnyH_done (by kernel_rfl) ?_ _
        go_wp2_with fail
        have oz5 := own_setRow owm5 (g := w.heap.size) (cs := isa ⟨X0, X1, X4, D⟩ P5 p5) (by omega)
        exact bodyPost_ret (res2 rfl rfl (is_load_run hgz rfl)) rfl ⟨P5, p5, by rw [HV.out, HE.out]; rfl, by rw [HV.out]; exact Made.of_own (own_base oz5 (by omega)) hS.b⟩
end
end Go.Proofs.Ytodlfdnegcfhcaa

/-
  Contracts of layer 9's WithID, the program's and the document's. Conditions are each theorem's own.
-/
namespace Go.Proofs.Ytodlfdnegcfhcaa
open Go.RowKit

theorem made_own {w w' : World} {P : Option Addr} {p n : Nat} {bs : List UInt8} (h : Made w w' (.slice P n p) bs) : w'.ownsRow w.heap.size 5 1 (.slice P bs.length p) bs.length (row bs) := by
  obtain ⟨A, c, e, hl, hr, ho, hb⟩ := h
  cases e
  exact ho
end Go.Proofs.Ytodlfdnegcfhcaa

/-
  What layer 9's laws call first: that an identifier is told. And what a built message is, or an error beside nothing. Conditions are each theorem's own.
-/
namespace Go.Proofs.Ytodlfdnegcfhcaa
open Go.RowKit

theorem resI_shape {p : List UInt8} {q : PI} {w w' : World} {v : Value} (h : (chkI q ≠ 0 → v = .slice none 0 0 ∧ Below w.heap.size w w') ∧ (chkI q = 0 → Made w w' v (bldI p q))) :
    ∃ A c, v = .slice A (resI p q).length c ∧ Rd w' w'.heap.size A (resI p q) ∧ Below w.heap.size w w' := by
  by_cases hc : chkI q = 0
  · obtain ⟨A, c, rfl, hl, hr, ho, hb⟩ := h.2 hc
    exact ⟨A, c, by rw [resI, if_pos hc], by rw [resI, if_pos hc]; exact hr, hb⟩
  · obtain ⟨rfl, hb⟩ := h.1 hc
    exact ⟨none, 0, by rw [resI, if_neg hc]; rfl, by rw [resI, if_neg hc]; exact Rd.nil, hb⟩
theorem made_arg {w w' : World} {P : Option Addr} {p n : Nat} {bs : List UInt8} (h : Made w w' (.slice P n p) bs) : Arg w' w'.heap.size P p bs := by
  obtain ⟨A, c, e, ha, _, _⟩ := made_shape h
  cases e
  exact ha
def qaI : PI := ⟨8, 0, 65538, []⟩
theorem parseI_awake (A : Option Addr) (c B : Nat) (w : World) (h : Arg w B A c (bldI [] qaI)) (hB : B ≤ w.heap.size) :
    Calls Try.prog 58 #[.slice A 8 c] w fun e w' => ∃ P p, e = .returned (.tuple #[isv qaI P p, .int .i64 0]) ∧ Arg w' w'.heap.size P p [] ∧ Below w.heap.size w w' := by
  have hlen : (bldI [] qaI).length = 8 := bldI_len [] qaI
  have hk := backI (p := []) (q := qaI) (by decide)
  have := cIparse (bldI [] qaI) A c w B h hB (by rw [hlen]; decide)
  rw [hk.1, hk.2, hlen] at this
  refine this.mono ?_
  rintro e w' ⟨P, p, rfl, hm⟩
  have hb := hm.below
  obtain ⟨A, c, e, ha, ho, _⟩ := made_shape hm
  cases e
  exact ⟨P, p, rfl, ha, hb⟩
theorem idI_awake (P : Option Addr) (p : Nat) (w : World) : Calls Try.prog 107 #[isv qaI P p] w fun e w' => e = .returned (.int .i64 1) ∧ Below w.heap.size w w' := cIid qaI P p w
end Go.Proofs.Ytodlfdnegcfhcaa

/-
  Ports of packets, and packets with others, in plain lists of bytes. No program. Conditions are each theorem's own.
-/
namespace Go.Proofs.Ytodlfdnegcfhcaa
open Go.RowKit

/-- What a packet has within, of each kind. -/
def inU (p : P4) : PU := prsU p.src p.dst p.dat
def inT (p : P4) : PT := prsT p.src p.dst p.dat
def inI (p : P4) : PI := prsI [] p.dat
/-- What is wrong with bytes that should be a query; nothing: 0. -/
def icE (b : List UInt8) : Int := if badI [] b ≠ 0 then badI [] b else if qryI (prsI [] b).typ = true then 0 else 8
/-- What is wrong with a packet's ports; nothing: 0. -/
def ofE (p : P4) : Int :=
  if chk4 p ≠ 0 then chk4 p else if whole4 p = false then 4
  else if p.proto = 17 then badU p.src p.dst p.dat
  else if p.proto = 6 then badT p.src p.dst p.dat
  else if p.proto = 1 then icE p.dat else 8
def ptS (p : P4) : Int := if p.proto = 17 then (inU p).src else if p.proto = 6 then (inT p).src else idI (inI p)
def ptD (p : P4) : Int := if p.proto = 17 then (inU p).dst else if p.proto = 6 then (inT p).dst else idI (inI p)
def flg (p : P4) : Int := if ofE p = 0 ∧ p.proto = 6 then (inT p).flags else 0
/-- What is wrong with a packet, an address and a port. -/
def isAd (a : Int) : Prop := 0 ≤ a ∧ a < 4294967296
def isPt (n : Int) : Prop := 0 ≤ n ∧ n ≤ 65535
instance (a : Int) : Decidable (isAd a) := by unfold isAd; infer_instance
instance (n : Int) : Decidable (isPt n) := by unfold isPt; infer_instance
def mayE (p : P4) (addr port : Int) : Int := if ofE p ≠ 0 then ofE p else if isAd addr ∧ isPt port then 0 else 1
/-- A packet whose data are built anew. -/
def nwD (k : Int) (s d : Int) (u : PU) (t : PT) (i : PI) : List UInt8 := if k = 17 then bldU s d u else if k = 6 then bldT s d t else bldI [] i
def nwP (p : P4) (s d : Int) (u : PU) (t : PT) (i : PI) : P4 := ⟨p.tos, p.id, p.off, p.ttl, p.proto, s, d, p.df, p.mf, p.opt, nwD p.proto s d u t i⟩
def srcU (u : PU) (n : Int) : PU := ⟨n, u.dst, u.nosum, u.dat⟩
def dstU (u : PU) (n : Int) : PU := ⟨u.src, n, u.nosum, u.dat⟩
def srcT (t : PT) (n : Int) : PT := ⟨n, t.dst, t.seq, t.ack, t.res, t.flags, t.win, t.urg, t.opt, t.dat⟩
def dstT (t : PT) (n : Int) : PT := ⟨t.src, n, t.seq, t.ack, t.res, t.flags, t.win, t.urg, t.opt, t.dat⟩
def frP (p : P4) (a n : Int) : P4 := nwP p a p.dst (srcU (inU p) n) (srcT (inT p) n) (wdI (inI p) n)
def toP (p : P4) (a n : Int) : P4 := nwP p p.src a (dstU (inU p) n) (dstT (inT p) n) (wdI (inI p) n)
def frV (p : P4) (a n : Int) : P4 := if mayE p a n = 0 then frP p a n else p4z
def toV (p : P4) (a n : Int) : P4 := if mayE p a n = 0 then toP p a n else p4z

theorem badU_ok {s d : Int} {b : List UInt8} (h : badU s d b = 0) : prsU s d b = rawU b ∧ 8 ≤ b.length := by
  refine ⟨by rw [prsU, if_pos h], ?_⟩
  unfold badU at h
  split at h
  · cases h
  · omega
theorem badT_ok {s d : Int} {b : List UInt8} (h : badT s d b = 0) : prsT s d b = rawT b ∧ 20 ≤ hlT b ∧ hlT b ≤ (b.length : Int) ∧ b.length ≤ 65535 := by
  refine ⟨by rw [prsT, if_pos h], ?_⟩
  unfold badT at h
  split at h
  · cases h
  · split at h
    · cases h
    · split at h
      · cases h
      · split at h
        · cases h
        · omega
theorem badI_ok {p b : List UInt8} (h : badI p b = 0) : prsI p b = rawI b ∧ 8 ≤ b.length := by
  refine ⟨by rw [prsI, if_pos h], ?_⟩
  unfold badI at h
  split at h
  · cases h
  · omega
theorem hlT_bd (b : List UInt8) : 0 ≤ hlT b ∧ hlT b ≤ 60 ∧ hlT b % 4 = 0 := by
  have := byt_lo b 12; have := byt_hi b 12; unfold hlT; omega
theorem rawT_len {b : List UInt8} (h1 : 20 ≤ hlT b) (h2 : hlT b ≤ (b.length : Int)) : (rawT b).opt.length = (hlT b).toNat - 20 ∧ (rawT b).dat.length = b.length - (hlT b).toNat := by
  have e : (b.take (hlT b).toNat).length = (hlT b).toNat := by rw [List.length_take]; omega
  exact ⟨by show ((b.take (hlT b).toNat).drop 20).length = _; rw [List.length_drop, e], by show (b.drop (hlT b).toNat).length = _; rw [List.length_drop]⟩
theorem rawU_arg (b : List UInt8) : argU (rawU b) := ⟨(n2_bd b 0).1, (n2_bd b 0).2, (n2_bd b 2).1, (n2_bd b 2).2⟩
theorem rawT_arg {b : List UInt8} (h1 : 20 ≤ hlT b) (h2 : hlT b ≤ (b.length : Int)) : argT (rawT b) := by
  have h3 := hlT_bd b
  have h4 := rawT_len h1 h2
  have a := byt_lo b 12; have b1 := byt_lo b 13; have b2 := byt_hi b 13
  have e1 : 0 ≤ (rawT b).res ∧ (rawT b).res ≤ 15 := by simp only [rawT]; omega
  exact ⟨(n2_bd b 0).1, (n2_bd b 0).2, (n2_bd b 2).1, (n2_bd b 2).2, (n2_bd b 14).1, (n2_bd b 14).2, (n2_bd b 18).1, (n2_bd b 18).2, (n4_bd b 4).1, (n4_bd b 4).2, (n4_bd b 8).1, (n4_bd b 8).2, e1.1, e1.2, b1, b2, by omega, by omega⟩
theorem rawI_arg (b : List UInt8) : argI (rawI b) := ⟨byt_lo b 0, byt_hi b 0, byt_lo b 1, byt_hi b 1, (n4_bd b 4).1, (n4_bd b 4).2⟩

theorem chkU_src {u : PU} {n : Int} (ha : argU u) (hn : isPt n) (hl : u.dat.length ≤ 65527) : chkU (srcU u n) = 0 := by
  obtain ⟨a1, a2, a3, a4⟩ := ha
  have hx : argU (srcU u n) := ⟨hn.1, hn.2, a3, a4⟩
  rw [chkU, if_pos hx, if_neg (by show ¬ u.dat.length > 65527; omega)]
theorem chkU_dst {u : PU} {n : Int} (ha : argU u) (hn : isPt n) (hl : u.dat.length ≤ 65527) : chkU (dstU u n) = 0 := by
  obtain ⟨a1, a2, a3, a4⟩ := ha
  have hx : argU (dstU u n) := ⟨a1, a2, hn.1, hn.2⟩
  rw [chkU, if_pos hx, if_neg (by show ¬ u.dat.length > 65527; omega)]
theorem chkT_src {u : PT} {n : Int} (ha : argT u) (hn : isPt n) (hl : sizeT u ≤ 65535) : chkT (srcT u n) = 0 := by
  obtain ⟨a1, a2, a3, a4, a5⟩ := ha
  have hx : argT (srcT u n) := ⟨hn.1, hn.2, a3, a4, a5⟩
  rw [chkT, if_pos hx, if_neg (by show ¬ sizeT u > 65535; omega)]
theorem chkT_dst {u : PT} {n : Int} (ha : argT u) (hn : isPt n) (hl : sizeT u ≤ 65535) : chkT (dstT u n) = 0 := by
  obtain ⟨a1, a2, a3, a4, a5⟩ := ha
  have hx : argT (dstT u n) := ⟨a1, a2, hn.1, hn.2, a5⟩
  rw [chkT, if_pos hx, if_neg (by show ¬ sizeT u > 65535; omega)]
theorem chkI_wd {q : PI} {n : Int} (ha : argI q) (hl : q.dat.length ≤ 65527) : chkI (wdI q n) = 0 := by
  obtain ⟨a1, a2, a3, a4, a5, a6⟩ := ha
  have hx : argI (wdI q n) := ⟨a1, a2, a3, a4, by simp only [wdI]; omega, by simp only [wdI]; omega⟩
  rw [chkI, if_pos hx, if_neg (by show ¬ q.dat.length > 65527; omega)]

/-- A packet that has ports: what it is. -/
theorem of_ok {p : P4} (h : ofE p = 0) : chk4 p = 0 ∧ whole4 p = true ∧
    ((p.proto = 17 ∧ badU p.src p.dst p.dat = 0) ∨ (p.proto = 6 ∧ badT p.src p.dst p.dat = 0) ∨ (p.proto = 1 ∧ badI [] p.dat = 0 ∧ qryI (inI p).typ = true)) := by
  unfold ofE at h
  split at h
  · rename_i hc; exact absurd h hc
  · rename_i hc
    have hc : chk4 p = 0 := by omega
    split at h
    · cases h
    · rename_i hw
      refine ⟨hc, by simpa using hw, ?_⟩
      split at h
      · rename_i hk; exact .inl ⟨hk, h⟩
      · split at h
        · rename_i hk; exact .inr (.inl ⟨hk, h⟩)
        · split at h
          · rename_i hk
            unfold icE at h
            split at h
            · rename_i hb; exact absurd h hb
            · rename_i hb
              split at h
              · rename_i hq; exact .inr (.inr ⟨hk, by omega, hq⟩)
              · cases h
          · cases h
theorem of_len {p : P4} (h : ofE p = 0) : p.dat.length ≤ 65515 := by
  obtain ⟨hc, _⟩ := of_ok h
  have := (chk4_ok hc).2.1
  unfold size4 head4 at this; omega
/-- What is built anew may be. -/
theorem fr_chk {p : P4} {n : Int} (h : ofE p = 0) (hn : isPt n) : (p.proto = 17 → chkU (srcU (inU p) n) = 0) ∧ (p.proto = 6 → chkT (srcT (inT p) n) = 0) ∧ (p.proto = 1 → chkI (wdI (inI p) n) = 0) := by
  have hl := of_len h
  obtain ⟨_, _, ho⟩ := of_ok h
  refine ⟨fun hk => ?_, fun hk => ?_, fun hk => ?_⟩
  · have hb : badU p.src p.dst p.dat = 0 := by rcases ho with ⟨_, h⟩ | ⟨h, _⟩ | ⟨h, _⟩ <;> first | exact h | omega
    rw [inU, (badU_ok hb).1]
    exact chkU_src (rawU_arg _) hn (by simp only [rawU, List.length_drop]; omega)
  · have hb : badT p.src p.dst p.dat = 0 := by rcases ho with ⟨h, _⟩ | ⟨_, h⟩ | ⟨h, _⟩ <;> first | exact h | omega
    obtain ⟨e, h1, h2, h3⟩ := badT_ok hb
    have h4 := rawT_len h1 h2
    rw [inT, e]
    exact chkT_src (rawT_arg h1 h2) hn (by unfold sizeT; omega)
  · have hb : badI [] p.dat = 0 := by rcases ho with ⟨h, _⟩ | ⟨h, _⟩ | ⟨_, h, _⟩ <;> first | exact h | omega
    rw [inI, (badI_ok hb).1]
    exact chkI_wd (rawI_arg _) (by simp only [rawI, List.length_drop]; omega)
theorem to_chk {p : P4} {n : Int} (h : ofE p = 0) (hn : isPt n) : (p.proto = 17 → chkU (dstU (inU p) n) = 0) ∧ (p.proto = 6 → chkT (dstT (inT p) n) = 0) ∧ (p.proto = 1 → chkI (wdI (inI p) n) = 0) := by
  have hl := of_len h
  obtain ⟨_, _, ho⟩ := of_ok h
  refine ⟨fun hk => ?_, fun hk => ?_, (fr_chk h hn).2.2⟩
  · have hb : badU p.src p.dst p.dat = 0 := by rcases ho with ⟨_, h⟩ | ⟨h, _⟩ | ⟨h, _⟩ <;> first | exact h | omega
    rw [inU, (badU_ok hb).1]
    exact chkU_dst (rawU_arg _) hn (by simp only [rawU, List.length_drop]; omega)
  · have hb : badT p.src p.dst p.dat = 0 := by rcases ho with ⟨h, _⟩ | ⟨_, h⟩ | ⟨h, _⟩ <;> first | exact h | omega
    obtain ⟨e, h1, h2, h3⟩ := badT_ok hb
    have h4 := rawT_len h1 h2
    rw [inT, e]
    exact chkT_dst (rawT_arg h1 h2) hn (by unfold sizeT; omega)
/-- How long data that are built anew are: as long as those that were. -/
theorem nw_len {p : P4} {s d : Int} {u : PU} {t : PT} {i : PI} (h : ofE p = 0) (hu : u.dat.length = (inU p).dat.length) (ho : t.opt.length = (inT p).opt.length) (ht : t.dat.length = (inT p).dat.length) (hi : i.dat.length = (inI p).dat.length) :
    (nwD p.proto s d u t i).length = p.dat.length := by
  obtain ⟨_, _, hh⟩ := of_ok h
  unfold nwD
  rcases hh with ⟨hk, hb⟩ | ⟨hk, hb⟩ | ⟨hk, hb, _⟩
  · rw [if_pos hk, bldU_len, hu, inU, (badU_ok hb).1]
    have := (badU_ok hb).2
    simp only [rawU, List.length_drop]; omega
  · obtain ⟨e, h1, h2, h3⟩ := badT_ok hb
    have h4 := rawT_len h1 h2
    rw [if_neg (by omega), if_pos hk, bldT_len, ho, ht, inT, e]; omega
  · rw [if_neg (by omega), if_neg (by omega), bldI_len, hi, inI, (badI_ok hb).1]
    have := (badI_ok hb).2
    simp only [rawI, List.length_drop]; omega
theorem chk4_same {p q : P4} (h : chk4 p = 0) (e1 : q.tos = p.tos) (e2 : q.id = p.id) (e3 : q.off = p.off) (e4 : q.ttl = p.ttl) (e5 : q.proto = p.proto) (e6 : q.mf = p.mf) (e7 : q.opt.length = p.opt.length) (e8 : q.dat.length = p.dat.length) (hs : isAd q.src) (hd : isAd q.dst) : chk4 q = 0 := by
  obtain ⟨⟨a1, a2, a3, a4, a5, a6, a7, a8, _, _, _, _, a9, a10, a11, a12, a13, a14⟩, h1, h2⟩ := chk4_ok h
  have hq : arg4 q := by
    unfold arg4
    rw [e1, e2, e3, e4, e5, e6, e7, e8]
    exact ⟨a1, a2, a3, a4, a5, a6, a7, a8, hs.1, hs.2, hd.1, hd.2, a9, a10, a11, a12, a13, a14⟩
  have e : size4 q = size4 p := by unfold size4 head4; rw [e7, e8]
  rw [chk4, if_pos hq, e, e3, e8, if_neg (by omega)]
theorem of_ad {p : P4} (h : chk4 p = 0) : isAd p.src ∧ isAd p.dst := by
  obtain ⟨⟨_, _, _, _, _, _, _, _, a1, a2, a3, a4, _⟩, _⟩ := chk4_ok h
  exact ⟨⟨a1, a2⟩, a3, a4⟩
/-- May a packet be whose address is another one? -/
theorem chk4_ad {p q : P4} (h : chk4 p = 0) (e1 : q.tos = p.tos) (e2 : q.id = p.id) (e3 : q.off = p.off) (e4 : q.ttl = p.ttl) (e5 : q.proto = p.proto) (e6 : q.mf = p.mf) (e7 : q.opt.length = p.opt.length) (e8 : q.dat.length = p.dat.length) : (chk4 q = 0) ↔ (isAd q.src ∧ isAd q.dst) :=
  ⟨fun h => of_ad h, fun ⟨a, b⟩ => chk4_same h e1 e2 e3 e4 e5 e6 e7 e8 a b⟩
/-- What is told of a packet that was built anew. -/
theorem nw_of {p : P4} {s d : Int} {u : PU} {t : PT} {i : PI} (h : ofE p = 0) (hs : isAd s) (hd : isAd d) (hu : u.dat.length = (inU p).dat.length) (ho : t.opt.length = (inT p).opt.length) (ht : t.dat.length = (inT p).dat.length) (hi : i.dat.length = (inI p).dat.length) (hty : i.typ = (inI p).typ)
    (hcu : p.proto = 17 → chkU u = 0) (hct : p.proto = 6 → chkT t = 0) (hci : p.proto = 1 → chkI i = 0) :
    ofE (nwP p s d u t i) = 0 ∧ (p.proto = 17 → inU (nwP p s d u t i) = u) ∧ (p.proto = 6 → inT (nwP p s d u t i) = t) ∧ (p.proto = 1 → inI (nwP p s d u t i) = i) := by
  have hl := nw_len (s := s) (d := d) h hu ho ht hi
  obtain ⟨hc, hw, hh⟩ := of_ok h
  have c1 : chk4 (nwP p s d u t i) = 0 := chk4_same hc rfl rfl rfl rfl rfl rfl rfl hl hs hd
  have w1 : whole4 (nwP p s d u t i) = true := hw
  have k1 : (nwP p s d u t i).proto = p.proto := rfl
  have d1 : (nwP p s d u t i).dat = nwD p.proto s d u t i := rfl
  have s1 : (nwP p s d u t i).src = s := rfl
  have t1 : (nwP p s d u t i).dst = d := rfl
  rw [ofE, if_neg (by omega), if_neg (by rw [w1]; decide), k1, inU, inT, inI, d1, s1, t1]
  rcases hh with ⟨hk, hb⟩ | ⟨hk, hb⟩ | ⟨hk, hb, hq⟩
  · have e : nwD p.proto s d u t i = bldU s d u := if_pos hk
    have k := backU (src := s) (dst := d) (hcu hk)
    rw [if_pos hk, e]
    exact ⟨k.1, fun _ => k.2, fun h => by omega, fun h => by omega⟩
  · have e : nwD p.proto s d u t i = bldT s d t := by rw [nwD, if_neg (by omega), if_pos hk]
    have k := backT (src := s) (dst := d) (hct hk)
    rw [if_neg (by omega), if_pos hk, e]
    exact ⟨k.1, fun h => by omega, fun _ => k.2, fun h => by omega⟩
  · have e : nwD p.proto s d u t i = bldI [] i := by rw [nwD, if_neg (by omega), if_neg (by omega)]
    have k := backI (p := []) (hci hk)
    rw [if_neg (by omega), if_neg (by omega), if_pos hk, e, icE, if_neg (by rw [k.1]; simp), k.2, if_pos (by rw [hty]; exact hq)]
    exact ⟨rfl, fun h => by omega, fun h => by omega, fun _ => rfl⟩
theorem may_ok {p : P4} {a n : Int} (h : mayE p a n = 0) : ofE p = 0 ∧ isAd a ∧ isPt n := by
  unfold mayE at h
  split at h
  · rename_i hc; exact absurd h hc
  · rename_i hc
    split at h
    · rename_i hx; exact ⟨by omega, hx⟩
    · cases h
theorem id_wd (q : PI) {n : Int} (h : isPt n) : idI (wdI q n) = n := by
  obtain ⟨h0, h1⟩ := h
  simp only [idI, wdI]; omega
/-- From another endpoint, to another endpoint: the ports, and what stays. -/
theorem fr_take {p : P4} {a n : Int} (h : mayE p a n = 0) : ofE (frP p a n) = 0 ∧ ptS (frP p a n) = n ∧ (p.proto ≠ 1 → ptD (frP p a n) = ptD p) ∧ (frP p a n).dat.length = p.dat.length := by
  obtain ⟨h0, ha, hn⟩ := may_ok h
  obtain ⟨hc, _, hh⟩ := of_ok h0
  have hf := fr_chk h0 hn
  obtain ⟨k0, k1, k2, k3⟩ := nw_of (s := a) (d := p.dst) (u := srcU (inU p) n) (t := srcT (inT p) n) (i := wdI (inI p) n) h0 ha (of_ad hc).2 rfl rfl rfl rfl rfl hf.1 hf.2.1 hf.2.2
  refine ⟨k0, ?_, ?_, nw_len h0 rfl rfl rfl rfl⟩
  · have k : (frP p a n).proto = p.proto := rfl
    rw [ptS, k]
    rcases hh with ⟨hk, _⟩ | ⟨hk, _⟩ | ⟨hk, _⟩
    · rw [if_pos hk]; show (inU (nwP ..)).src = n; rw [k1 hk]; rfl
    · rw [if_neg (by omega), if_pos hk]; show (inT (nwP ..)).src = n; rw [k2 hk]; rfl
    · rw [if_neg (by omega), if_neg (by omega)]; show idI (inI (nwP ..)) = n; rw [k3 hk]; exact id_wd _ hn
  · intro h1
    have k : (frP p a n).proto = p.proto := rfl
    rw [ptD, ptD, k]
    rcases hh with ⟨hk, _⟩ | ⟨hk, _⟩ | ⟨hk, _⟩
    · rw [if_pos hk, if_pos hk]; show (inU (nwP ..)).dst = _; rw [k1 hk]; rfl
    · rw [if_neg (by omega), if_pos hk, if_neg (by omega), if_pos hk]; show (inT (nwP ..)).dst = _; rw [k2 hk]; rfl
    · exact absurd hk h1
theorem to_take {p : P4} {a n : Int} (h : mayE p a n = 0) : ofE (toP p a n) = 0 ∧ ptD (toP p a n) = n ∧ (p.proto ≠ 1 → ptS (toP p a n) = ptS p) ∧ (toP p a n).dat.length = p.dat.length := by
  obtain ⟨h0, ha, hn⟩ := may_ok h
  obtain ⟨hc, _, hh⟩ := of_ok h0
  have hf := to_chk h0 hn
  obtain ⟨k0, k1, k2, k3⟩ := nw_of (s := p.src) (d := a) (u := dstU (inU p) n) (t := dstT (inT p) n) (i := wdI (inI p) n) h0 (of_ad hc).1 ha rfl rfl rfl rfl rfl hf.1 hf.2.1 hf.2.2
  refine ⟨k0, ?_, ?_, nw_len h0 rfl rfl rfl rfl⟩
  · have k : (toP p a n).proto = p.proto := rfl
    rw [ptD, k]
    rcases hh with ⟨hk, _⟩ | ⟨hk, _⟩ | ⟨hk, _⟩
    · rw [if_pos hk]; show (inU (nwP ..)).dst = n; rw [k1 hk]; rfl
    · rw [if_neg (by omega), if_pos hk]; show (inT (nwP ..)).dst = n; rw [k2 hk]; rfl
    · rw [if_neg (by omega), if_neg (by omega)]; show idI (inI (nwP ..)) = n; rw [k3 hk]; exact id_wd _ hn
  · intro h1
    have k : (toP p a n).proto = p.proto := rfl
    rw [ptS, ptS, k]
    rcases hh with ⟨hk, _⟩ | ⟨hk, _⟩ | ⟨hk, _⟩
    · rw [if_pos hk, if_pos hk]; show (inU (nwP ..)).src = _; rw [k1 hk]; rfl
    · rw [if_neg (by omega), if_pos hk, if_neg (by omega), if_pos hk]; show (inT (nwP ..)).src = _; rw [k2 hk]; rfl
    · exact absurd hk h1
end Go.Proofs.Ytodlfdnegcfhcaa

/-
  Segments whose greatest size is held, and packets of them, in plain lists of bytes. No program. Conditions are each theorem's own.
-/
namespace Go.Proofs.Ytodlfdnegcfhcaa
open Go.RowKit

/-- A greatest size set in the place of another one. -/
def setO (o : List UInt8) (a : Nat) (n : Int) : List UInt8 := (o.set (a + 2) (u8 (n / 256))).set (a + 3) (u8 n)
theorem setO_len (o : List UInt8) (a : Nat) (n : Int) : (setO o a n).length = o.length := by simp [setO]
theorem byt_set (l : List UInt8) (i j : Nat) (v : UInt8) : byt (l.set i v) j = if i = j ∧ j < l.length then (v.toNat : Int) else byt l j := by
  unfold byt
  by_cases h : i = j
  · subst h
    by_cases hl : i < l.length
    · simp [hl]
    · simp [hl]
  · rw [if_neg (fun e => h e.1), List.getElem?_set_ne h]
theorem byt_setO_lo {o : List UInt8} {a x : Nat} {n : Int} (h : x < a + 2) : byt (setO o a n) x = byt o x := by
  rw [setO, byt_set, if_neg (fun e => by omega), byt_set, if_neg (fun e => by omega)]
theorem n2_setO {o : List UInt8} {a : Nat} {n : Int} (h : a + 4 ≤ o.length) (h0 : 0 ≤ n) (h1 : n ≤ 65535) : n2 (setO o a n) (a + 2) = n := by
  unfold n2
  rw [setO, byt_set, if_neg (fun e => by omega), byt_set, if_pos ⟨rfl, by omega⟩, byt_set, if_pos ⟨by omega, by simp; omega⟩, u8_val, u8_val]
  omega
theorem plc_ge (b : List UInt8) : ∀ (f x a : Nat), (plc b f x).find? (mssB b) = some a → x ≤ a
  | 0, x, a, h => by simp [plc] at h
  | f + 1, x, a, h => by
    rw [plc] at h
    by_cases h0 : optL b x = 0
    · rw [if_pos h0] at h; cases h
    · rw [if_neg h0, List.find?_cons] at h
      cases hm : mssB b x
      · rw [hm] at h
        by_cases hz : byt b x = 0
        · rw [if_pos hz] at h; cases h
        · rw [if_neg hz] at h
          have := plc_ge b f _ a h
          omega
      · rw [hm] at h; cases h; omega
theorem find_set (b : List UInt8) (n : Int) : ∀ (f x a : Nat), (plc b f x).find? (mssB b) = some a → (plc (setO b a n) f x).find? (mssB (setO b a n)) = some a
  | 0, x, a, h => by simp [plc] at h
  | f + 1, x, a, h => by
    have hx := plc_ge b (f + 1) x a h
    have e0 : byt (setO b a n) x = byt b x := byt_setO_lo (by omega)
    have e1 : byt (setO b a n) (x + 1) = byt b (x + 1) := byt_setO_lo (by omega)
    have el : optL (setO b a n) x = optL b x := by unfold optL; rw [e0, e1, setO_len]
    have em : mssB (setO b a n) x = mssB b x := by unfold mssB; rw [e0, el]
    rw [plc] at h ⊢
    by_cases h0 : optL b x = 0
    · rw [if_pos h0] at h; cases h
    · rw [if_neg h0, List.find?_cons] at h
      rw [el, if_neg h0, List.find?_cons, em, e0]
      cases hm : mssB b x
      · rw [hm] at h
        by_cases hz : byt b x = 0
        · rw [if_pos hz] at h; cases h
        · rw [if_neg hz] at h
          rw [if_neg hz]
          exact find_set b n f _ a h
      · rw [hm] at h; exact h
theorem mssT_set {b : List UInt8} {a : Nat} {n : Int} (h : mssT b = some a) : mssT (setO b a n) = some a := by
  unfold mssT places at *
  rw [setO_len]; exact find_set b n _ _ a h
theorem mssT_room {b : List UInt8} {a : Nat} (h : mssT b = some a) : a + 4 ≤ b.length := by
  have hm : mssB b a = true := List.find?_some h
  have h4 : optL b a = 4 := by unfold mssB at hm; rw [Bool.and_eq_true, decide_eq_true_iff, decide_eq_true_iff] at hm; exact hm.2
  have := optL_le (b := b) (at_ := a) (by omega)
  omega
theorem mss_some {b : List UInt8} (h : mssK b = true) : ∃ a, mssT b = some a ∧ mssN b = n2 b (a + 2) ∧ mssA b = (a : Int) := by
  unfold mssK at h
  obtain ⟨a, ha⟩ := Option.isSome_iff_exists.1 h
  exact ⟨a, ha, by rw [mssN, ha], by rw [mssA, ha]⟩
theorem mss_none {b : List UInt8} (h : mssK b = false) : mssN b = 0 ∧ mssA b = 0 := by
  have h0 : mssT b = none := by unfold mssK at h; cases hb : mssT b with | none => rfl | some a => rw [hb] at h; cases h
  exact ⟨by rw [mssN, h0], by rw [mssA, h0]⟩
/-- Is the greatest size held? -/
def sgC (f : Int) (o : List UInt8) (most : Int) : Prop := bits .and .i64 f 2 ≠ 0 ∧ 0 ≤ most ∧ most ≤ 65535 ∧ mssK o = true ∧ most < mssN o
instance (f : Int) (o : List UInt8) (most : Int) : Decidable (sgC f o most) := by unfold sgC; infer_instance
def sgO (f : Int) (o : List UInt8) (most : Int) : List UInt8 := if sgC f o most then setO o (mssA o).toNat most else o
def sgT (t : PT) (most : Int) : PT := ⟨t.src, t.dst, t.seq, t.ack, t.res, t.flags, t.win, t.urg, sgO t.flags t.opt most, t.dat⟩
theorem sgO_len (f : Int) (o : List UInt8) (most : Int) : (sgO f o most).length = o.length := by
  unfold sgO; split
  · exact setO_len _ _ _
  · rfl
theorem sgO_mss (f : Int) (o : List UInt8) (most : Int) : mssK (sgO f o most) = mssK o ∧ mssA (sgO f o most) = mssA o ∧ mssN (sgO f o most) = if sgC f o most then most else mssN o := by
  unfold sgO
  by_cases h : sgC f o most
  · rw [if_pos h, if_pos h]
    obtain ⟨_, h0, h1, hk, _⟩ := h
    obtain ⟨a, ha, _, hA⟩ := mss_some hk
    have e : (mssA o).toNat = a := by rw [hA]; omega
    rw [e]
    have hs := mssT_set (n := most) ha
    refine ⟨by rw [mssK, hs, hk]; rfl, by rw [mssA, hs, hA], by rw [mssN, hs]; exact n2_setO (mssT_room ha) h0 h1⟩
  · rw [if_neg h, if_neg h]; exact ⟨rfl, rfl, rfl⟩
theorem sgO_twice (f : Int) (o : List UInt8) (most : Int) : sgO f (sgO f o most) most = sgO f o most := by
  have h := sgO_mss f o most
  have hn : ¬ sgC f (sgO f o most) most := by
    rintro ⟨h0, h1, h2, h3, h4⟩
    rw [h.2.2] at h4
    split at h4
    · omega
    · rename_i hc
      exact hc ⟨h0, h1, h2, h.1 ▸ h3, h4⟩
  rw [sgO, if_neg hn]
theorem sgT_twice (t : PT) (most : Int) : sgT (sgT t most) most = sgT t most := by
  simp only [sgT, sgO_twice]
theorem chkT_sg {t : PT} {most : Int} (h : chkT t = 0) : chkT (sgT t most) = 0 := by
  obtain ⟨⟨a1, a2, a3, a4, a5, a6, a7, a8, a9, a10, a11, a12, a13, a14, a15, a16, a17, a18⟩, hs⟩ := chkT_ok h
  have hl := sgO_len t.flags t.opt most
  have hx : argT (sgT t most) := ⟨a1, a2, a3, a4, a5, a6, a7, a8, a9, a10, a11, a12, a13, a14, a15, a16, by show (sgO t.flags t.opt most).length ≤ 40; rw [hl]; exact a17, by show (sgO t.flags t.opt most).length % 4 = 0; rw [hl]; exact a18⟩
  have e : sizeT (sgT t most) = sizeT t := by show 20 + ((sgO t.flags t.opt most).length : Int) + _ = _; rw [hl]; rfl
  rw [chkT, if_pos hx, e, if_neg (by omega)]
theorem inT_chk {p : P4} (h : ofE p = 0) (hk : p.proto = 6) : chkT (inT p) = 0 := by
  have hl := of_len h
  obtain ⟨_, _, ho⟩ := of_ok h
  have hb : badT p.src p.dst p.dat = 0 := by rcases ho with ⟨h, _⟩ | ⟨_, h⟩ | ⟨h, _⟩ <;> first | exact h | omega
  obtain ⟨e, h1, h2, h3⟩ := badT_ok hb
  have h4 := rawT_len h1 h2
  rw [inT, e, chkT, if_pos (rawT_arg h1 h2), if_neg (by unfold sizeT; omega)]
/-- A packet whose segment's greatest size is held. -/
def pkP (p : P4) (most : Int) : P4 := if ofE p = 0 ∧ p.proto = 6 then nwP p p.src p.dst (inU p) (sgT (inT p) most) (inI p) else p
theorem pk_of (p : P4) (most : Int) : ofE (pkP p most) = ofE p ∧ (pkP p most).proto = p.proto ∧ ptS (pkP p most) = ptS p ∧ ptD (pkP p most) = ptD p ∧ (pkP p most).dat.length = p.dat.length ∧ pkP (pkP p most) most = pkP p most := by
  by_cases h : ofE p = 0 ∧ p.proto = 6
  · obtain ⟨h0, hk⟩ := h
    obtain ⟨hc, _, _⟩ := of_ok h0
    have e : pkP p most = nwP p p.src p.dst (inU p) (sgT (inT p) most) (inI p) := if_pos ⟨h0, hk⟩
    have hd := nw_len (s := p.src) (d := p.dst) (u := inU p) (t := sgT (inT p) most) (i := inI p) h0 rfl (sgO_len _ _ _) rfl rfl
    obtain ⟨k0, _, k2, _⟩ := nw_of (s := p.src) (d := p.dst) (u := inU p) (t := sgT (inT p) most) (i := inI p) h0 (of_ad hc).1 (of_ad hc).2 rfl (sgO_len _ _ _) rfl rfl rfl (fun h => by omega) (fun _ => chkT_sg (inT_chk h0 hk)) (fun h => by omega)
    have k2 := k2 hk
    rw [← e] at k0 k2
    have kp : (pkP p most).proto = p.proto := by rw [e]; rfl
    refine ⟨by rw [k0, h0], kp, ?_, ?_, by rw [e]; exact hd, ?_⟩
    · rw [ptS, ptS, kp, if_neg (by omega), if_pos hk, if_neg (by omega), if_pos hk, k2]; rfl
    · rw [ptD, ptD, kp, if_neg (by omega), if_pos hk, if_neg (by omega), if_pos hk, k2]; rfl
    · have e2 : pkP (pkP p most) most = nwP (pkP p most) (pkP p most).src (pkP p most).dst (inU (pkP p most)) (sgT (inT (pkP p most)) most) (inI (pkP p most)) := if_pos ⟨k0, by rw [kp]; exact hk⟩
      rw [e2, k2, sgT_twice, e]
      have hd6 : ∀ u i u' i', nwD p.proto p.src p.dst u (sgT (inT p) most) i = nwD p.proto p.src p.dst u' (sgT (inT p) most) i' := fun u i u' i' => by
        rw [nwD, if_neg (by omega), if_pos hk, nwD, if_neg (by omega), if_pos hk]
      simp only [nwP]
      rw [hd6 _ _ (inU p) (inI p)]
  · have e : pkP p most = p := if_neg h
    rw [e, e]; exact ⟨rfl, rfl, rfl, rfl, rfl, rfl⟩
theorem pk_rest (p : P4) (most : Int) : (⟨(pkP p most).tos, (pkP p most).id, (pkP p most).off, (pkP p most).ttl, (pkP p most).proto, (pkP p most).src, (pkP p most).dst, (pkP p most).df, (pkP p most).mf, (pkP p most).opt, p.dat⟩ : P4) = p := by
  unfold pkP
  split <;> rfl
theorem pk_opt (p : P4) (most : Int) : (pkP p most).opt = p.opt := by
  unfold pkP
  split <;> rfl
end Go.Proofs.Ytodlfdnegcfhcaa
