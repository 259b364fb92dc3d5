/-
  Contracts and lemmas on which the proofs of this seat stand (several texts in one). Conditions are each theorem's own.
-/
import Derived.Lib.Hide
import Derived.Lib.Join
import Derived.Test.YtpoigngpdcmipaaGreatMb10
import Derived.Lib.Strings
import Derived.Test.YtpoigngpdcmipaaGreatMb1
import Derived.Test.YtpoigngpdcmipaaGreatMb11
import Derived.Test.YtpoigngpdcmipaaGreatMb4
import Derived.Test.YtpoigngpdcmipaaGreatMb5
import Derived.Test.YtpoigngpdcmipaaGreatMb2
namespace Go.Proofs.YtpoigngpdcmipaaGreat
end Go.Proofs.YtpoigngpdcmipaaGreat
namespace Go.Proofs.YtpoigngpdcmipaaGreat
open Go.RowKit
end Go.Proofs.YtpoigngpdcmipaaGreat
namespace Go.Proofs.YtpoigngpdcmipaaGreat
open Go.RowKit
def inB (a : Int) (b : Int × Int) : Bool := decide (b.1 ≤ a ∧ a ≤ b.2)
def Blk (w : World) (g : Nat) (bs : List (Int × Int)) : Prop :=
  ∀ j, j < bs.length → w.cell? ⟨g, j * 2, none⟩ = some (.int .i64 (bs.getD j (0, 0)).1) ∧ w.cell? ⟨g, j * 2 + 1, none⟩ = some (.int .i64 (bs.getD j (0, 0)).2)
theorem Blk.below {w w' : World} {g B : Nat} {bs : List (Int × Int)} (h : Blk w g bs) (hb : Below B w w') (hg : g < B) : Blk w' g bs := fun j hj => by
  obtain ⟨h1, h2⟩ := h j hj
  exact ⟨(hb.cell (p := ⟨g, j * 2, none⟩) hg).trans h1, (hb.cell (p := ⟨g, j * 2 + 1, none⟩) hg).trans h2⟩
set_option maxHeartbeats 1000000 in
theorem cwithin (a : Int) (g : Nat) (bs : List (Int × Int)) (w : World) (hg : g < w.heap.size) (hb : Blk w g bs) (hl : bs.length ≤ 1000) :
    Calls Tryz.prog 85 #[.int .i64 a, .slice (some ⟨g, 0, none⟩) bs.length bs.length] w fun e w' => e = .returned (.bool (bs.any (inB a))) ∧ Below w.heap.size w w' := by
  go_enter Tryz.func85, Tryz.ntmps85
  go_wp2_with fail
  go_loopw [9] (fun i W => ∃ k : Nat, k ≤ bs.length ∧ Hid ((bs.take k).any (inB a) = false) ∧ i = .int .i64 (k : Int) ∧ Below w.heap.size w W) (fun i _ => bs.length - (intOf i).toNat)
  case atStart => exact ⟨0, Nat.zero_le _, Lib.hid (by simp), rfl, Below.refl _ _⟩
  case round =>
    obtain ⟨k, hk, HA, rfl, hbel⟩ := hrel
    by_cases hlt : k < bs.length
    · obtain ⟨h1, h2⟩ := (hb.below hbel hg) k hlt
      have HS : Hid ((bs.take (k + 1)).any (inB a) = inB a (bs.getD k (0, 0))) := Lib.hid (by
        rw [List.take_succ_eq_append_getElem hlt, List.any_append, HA.out]; simp [List.getD, hlt])
      have HM : Hid (bs.getD k (0, 0) ∈ bs) := Lib.hid (by simp [List.getD, hlt])
      have hwe : wr.heap.size ≥ w.heap.size := hbel.size
      have hbel2 := fun o => hbel.alloc hwe o
      obtain ⟨xy, hxy⟩ : ∃ xy, xy = bs.getD k (0, 0) := ⟨_, rfl⟩
      rw [← hxy] at h1 h2 HS HM
      clear hxy
      obtain ⟨x, y⟩ := xy
      by_cases hx : x ≤ a
      · by_cases hy : a ≤ y
        · have HR := Lib.hid (show bs.any (inB a) = true from List.any_eq_true.2 ⟨_, HM.out, by simp [inB, hx, hy]⟩)
          go_wp2_with fail
          go_ret
          exact ⟨ret_bool HR.out.symm, hbel2 _⟩
        · have hd : decide (a ≤ y) = false := by simpa using hy
          go_wp2_with fail
          go_roundw
          case rel => exact ⟨k + 1, by omega, Lib.hid (by rw [HS.out]; simp [inB, hy]), by simp, hbel2 _⟩
          case measure => simp [intOf]; omega
      · have hd : decide (x ≤ a) = false := by simpa using hx
        go_wp2_with fail
        go_roundw
        case rel => exact ⟨k + 1, by omega, Lib.hid (by rw [HS.out]; simp [inB, hx]), by simp, hbel2 _⟩
        case measure => simp [intOf]; omega
    · obtain rfl : k = bs.length := by omega
      have HR := Lib.hid (show bs.any (inB a) = false by have := HA.out; rwa [List.take_length] at this)
      go_wp2_with fail
      go_ret
      exact ⟨ret_bool HR.out.symm, hbel⟩
theorem cw1 (a lo hi : Int) (g : Nat) (w : World) (hg : g = w.heap.size) :
    Calls Tryz.prog 85 #[.int .i64 a, .slice (some ⟨g, 0, none⟩) 1 1] (w.alloc (.cells #[.int .i64 lo, .int .i64 hi] 134)) fun e w' => e = .returned (.bool (inB a (lo, hi))) ∧ Below w.heap.size w w' := by
  subst hg
  have hg := World.alloc_heap_new w (.cells #[.int .i64 lo, .int .i64 hi] 134)
  have hB := (Below.refl w.heap.size w).alloc (Nat.le_refl _) (.cells #[.int .i64 lo, .int .i64 hi] 134)
  refine (cwithin a w.heap.size [(lo, hi)] _ (by simp) (fun j hj => ?_) (by simp)).mono ?_
  · obtain rfl : j = 0 := by simp at hj; omega
    exact ⟨by rw [cell_of_row _ _ _ _ _ _ hg]; rfl, by rw [cell_of_row _ _ _ _ _ _ hg]; rfl⟩
  · rintro e w' ⟨rfl, hb⟩
    exact ⟨ret_bool (by simp), hB.trans (hb.mono (by simp))⟩
theorem host_in {a : Int} (h : inB a (16777216, 3758096383) = true) : hostB a = !(inB a (2130706432, 2147483647)) := by
  have h1 : 16777216 ≤ a ∧ a ≤ 3758096383 := of_decide_eq_true h
  by_cases h2 : 2130706432 ≤ a ∧ a ≤ 2147483647
  · rw [show inB a (2130706432, 2147483647) = true from decide_eq_true h2]
    exact decide_eq_false (by omega)
  · rw [show inB a (2130706432, 2147483647) = false from decide_eq_false h2]
    exact decide_eq_true (by omega)
theorem host_out {a : Int} (h : inB a (16777216, 3758096383) = false) : hostB a = false := by
  have h1 : ¬ (16777216 ≤ a ∧ a ≤ 3758096383) := of_decide_eq_false h
  exact decide_eq_false (by omega)
theorem c3host (a : Int) (w : World) : Calls Tryz.prog 55 #[.int .i64 a] w fun e w' => e = .returned (.bool (hostB a)) ∧ Below w.heap.size w w' := by
  by_cases h : inB a (16777216, 3758096383) = true
  · have HR := Lib.hid (host_in h)
    go_enter Tryz.func55, Tryz.ntmps55
    go_wp2_with (first
      | (go_at_call 85; refine (cw1 a 2130706432 2147483647 _ w1 rfl).mono ?_; rintro e w2 ⟨rfl, b2⟩)
      | (go_at_call 85; refine (cw1 a 16777216 3758096383 _ w rfl).mono ?_; rintro e w1 ⟨rfl, b1⟩))
    go_ret
    exact ⟨ret_bool HR.out.symm, b1.trans (b2.mono b1.size)⟩
  · have h' : inB a (16777216, 3758096383) = false := by simpa using h
    have HR := Lib.hid (host_out h')
    go_enter Tryz.func55, Tryz.ntmps55
    go_wp2_with (first
      | (go_at_call 85; refine (cw1 a 16777216 3758096383 _ w rfl).mono ?_; rintro e w1 ⟨rfl, b1⟩))
    go_ret
    exact ⟨ret_bool HR.out.symm, b1⟩
end Go.Proofs.YtpoigngpdcmipaaGreat
namespace Go.Proofs.YtpoigngpdcmipaaGreat
open Go.RowKit
theorem iindex_none (g n : Nat) (zs : List Int) (x : Int) (w : World) (hn : n ≤ 1000) (h : ∀ j, j < n → w.cell? ⟨g, j, none⟩ = some (.int .i64 (zs.getD j 0))) (hx : ∀ j, j < n → (x == zs.getD j 0) = false) :
    Calls Tryz.prog 196 #[.slice (some ⟨g, 0, none⟩) n n, .int .i64 x] w fun e w' => e = .returned (.int .i64 (-1)) ∧ w = w' := by
  have H := Lib.hid h
  have HX := Lib.hid hx
  clear h hx
  go_enter Tryz.func196, Tryz.ntmps196
  go_wp2
  go_loop [8] (fun i => ∃ k : Nat, k ≤ n ∧ i = .int .i64 k) (fun i => n - (intOf i).toNat)
  case atStart => exact ⟨0, Nat.zero_le _, rfl⟩
  case round =>
    obtain ⟨k, hk, rfl⟩ := hrel
    by_cases hlt : k < n
    · have hc := H.out k hlt
      have hd := HX.out k hlt
      generalize zs.getD k 0 = y at hc hd
      go_wp2
      go_round
      case rel => exact ⟨k + 1, by omega, by simp⟩
      case measure => simp [intOf]; omega
    · obtain rfl : k = n := by omega
      go_wp2
      go_ret
      exact ⟨rfl, rfl⟩
theorem iindex_some (g n k0 : Nat) (zs : List Int) (x : Int) (w : World) (hn : n ≤ 1000) (hk0 : k0 < n) (h : ∀ j, j < n → w.cell? ⟨g, j, none⟩ = some (.int .i64 (zs.getD j 0))) (hx : ∀ j, j < k0 → (x == zs.getD j 0) = false) (h0 : (x == zs.getD k0 0) = true) :
    Calls Tryz.prog 196 #[.slice (some ⟨g, 0, none⟩) n n, .int .i64 x] w fun e w' => e = .returned (.int .i64 (k0 : Int)) ∧ w = w' := by
  have H := Lib.hid h
  have HX := Lib.hid hx
  have H0 := Lib.hid h0
  clear h hx h0
  go_enter Tryz.func196, Tryz.ntmps196
  go_wp2
  go_loop [8] (fun i => ∃ k : Nat, k ≤ k0 ∧ i = .int .i64 k) (fun i => n - (intOf i).toNat)
  case atStart => exact ⟨0, Nat.zero_le _, rfl⟩
  case round =>
    obtain ⟨k, hk, rfl⟩ := hrel
    have hlt : k < n := by omega
    have hc := H.out k hlt
    by_cases hlt2 : k < k0
    · have hd := HX.out k hlt2
      generalize zs.getD k 0 = y at hc hd
      go_wp2
      go_round
      case rel => exact ⟨k + 1, by omega, by simp⟩
      case measure => simp [intOf]; omega
    · obtain rfl : k = k0 := by omega
      have hd := H0.out
      generalize zs.getD k 0 = y at hc hd
      go_wp2
      go_ret
      exact ⟨rfl, rfl⟩
theorem first_in (x : Int) : ∀ (zs : List Int), x ∈ zs → ∃ k, k < zs.length ∧ (∀ j, j < k → (x == zs.getD j 0) = false) ∧ (x == zs.getD k 0) = true
  | [], h => by cases h
  | z :: l, h => by
    by_cases e : x = z
    · exact ⟨0, by simp, fun j hj => absurd hj (Nat.not_lt_zero j), by simp [e]⟩
    · obtain ⟨k, h1, h2, h3⟩ := first_in x l (by rcases List.mem_cons.1 h with h | h; exact absurd h e; exact h)
      refine ⟨k + 1, by simp; omega, fun j hj => ?_, by simpa using h3⟩
      cases j with
      | zero => simpa using e
      | succ j => simpa using h2 j (by omega)
theorem icontains_any (g : Nat) (zs : List Int) (x : Int) (w : World) (hn : zs.length ≤ 1000) (h : w.rangeAt g 0 (zs.map (Value.int .i64))) :
    Calls Tryz.prog 190 #[.slice (some ⟨g, 0, none⟩) zs.length zs.length, .int .i64 x] w fun e w' => e = .returned (.bool (decide (x ∈ zs))) ∧ w = w' := by
  have hc : ∀ j, j < zs.length → w.cell? ⟨g, j, none⟩ = some (.int .i64 (zs.getD j 0)) := fun j hj => by
    have := h j (.int .i64 (zs.getD j 0)) (by simp [List.getD_eq_getElem?_getD, hj])
    rwa [Nat.zero_add] at this
  by_cases hm : x ∈ zs
  · obtain ⟨k, h1, h2, h3⟩ := first_in x zs hm
    have c := iindex_some g zs.length k zs x w hn h1 hc h2 h3
    have hD := Lib.hid (show decide (x ∈ zs) = true by simpa using hm)
    clear h hc h2 h3 hm
    go_enter Tryz.func190, Tryz.ntmps190
    go_wp2_with (go_at_call 196; refine c.mono ?_; rintro e w' ⟨rfl, rfl⟩)
    go_ret
    exact ⟨ret_bool (by rw [hD.out]), rfl⟩
  · have c := iindex_none g zs.length zs x w hn hc (fun j hj => by
      rw [List.getD_eq_getElem?_getD, List.getElem?_eq_getElem hj]
      simp only [Option.getD_some, beq_eq_false_iff_ne]
      intro e; exact hm (e ▸ List.getElem_mem hj))
    have hD := Lib.hid (show decide (x ∈ zs) = false by simpa using hm)
    clear h hc hm
    go_enter Tryz.func190, Tryz.ntmps190
    go_wp2_with (go_at_call 196; refine c.mono ?_; rintro e w' ⟨rfl, rfl⟩)
    go_ret
    exact ⟨ret_bool (by rw [hD.out]), rfl⟩
theorem range_ints (w : World) (zs : List Int) (t : TypeId) : (w.alloc (.cells (zs.map (Value.int .i64)).toArray t)).rangeAt w.heap.size 0 (zs.map (Value.int .i64)) := fun j v hj => by
  rw [Nat.zero_add, World.cell?_alloc_new, ← hj, List.getElem?_toArray]
theorem among_new (zs : List Int) (x : Int) (cs : Array Value) (n : Nat) (t : TypeId) (w : World) (hc : cs = (zs.map (Value.int .i64)).toArray) (hn : n = zs.length) (hl : zs.length ≤ 1000) :
    Calls Tryz.prog 182 #[.int .i64 x, .slice (some ⟨w.heap.size, 0, none⟩) n n] (w.alloc (.cells cs t)) fun e w' => e = .returned (.bool (decide (x ∈ zs))) ∧ Below w.heap.size w w' := by
  subst hc; subst hn
  have c := icontains_any w.heap.size zs x _ hl (range_ints w zs t)
  have hb : Below w.heap.size w (w.alloc (.cells (zs.map (Value.int .i64)).toArray t)) := (Below.refl _ w).alloc (Nat.le_refl _) _
  generalize decide (x ∈ zs) = D at c ⊢
  generalize w.alloc (.cells (zs.map (Value.int .i64)).toArray t) = W at *
  go_enter Tryz.func182, Tryz.ntmps182
  go_wp2_with (go_at_call 190; refine c.mono ?_; rintro e w' ⟨rfl, rfl⟩)
  go_ret
  exact ⟨rfl, hb⟩
theorem cIfault (k : Int) (w : World) : Calls Tryz.prog 165 #[.int .i64 k] w fun e w' => e = .returned (.bool (fltI k)) ∧ Below w.heap.size w w' := by
  obtain ⟨D, hD⟩ : ∃ D, D = fltI k := ⟨_, rfl⟩
  have HD := Lib.hid (show decide (k ∈ [3, 4, 5, 11, 12]) = D by rw [hD]; rfl)
  rw [← hD]; clear hD
  go_enter Tryz.func165, Tryz.ntmps165
  go_wp2_with (go_at_call 182; refine (among_new [3, 4, 5, 11, 12] k _ 5 _ w (by rfl) rfl (by simp)).mono ?_; rintro e w' ⟨rfl, x1⟩; rw [HD.out])
  go_ret
  exact ⟨rfl, x1⟩
end Go.Proofs.YtpoigngpdcmipaaGreat
namespace Go.Proofs.YtpoigngpdcmipaaGreat
open Go.RowKit
section
variable (q : PI) (A : Option Addr) (c : Nat) (w : World)
set_option maxRecDepth 100000 in
theorem cIcheck (hl : q.dat.length ≤ 1000000) : Calls Tryz.prog 144 #[isv q A c] w fun e w' => e = .returned (.int .i64 (chkI q)) ∧ Below w.heap.size w w' := by
  have hB : Below w.heap.size w (w.alloc (.cells (isa q A c) 160)) := (Below.refl w.heap.size w).alloc (Nat.le_refl _) _
  have hAt := Atis.new (q := q) (A := A) (c := c) w
  have hz : w.heap.size < (w.alloc (.cells (isa q A c) 160)).heap.size := by simp
  rw [isv_eq]
  have HO := Lib.hid (argI_iff q)
  have k0 := hAt.typ; have k1 := hAt.code; have k2 := hAt.rest; have k3 := hAt.dat
  go_enter Tryz.func144, Tryz.ntmps144
  go_upto_region 1 with fail
  generalize w.alloc (.cells (isa q A c) 160) = W at *
  by_cases ho : argI q
  · obtain ⟨g0, g1, g2⟩ := HO.out.1 ho
    have H0 := Lib.hid g0; have H1 := Lib.hid g1; have H2 := Lib.hid g2
    clear g0 g1 g2
    by_cases s : 65527 < q.dat.length
    · have HE := Lib.hid (show chkI q = 6 by rw [chkI, if_pos ho, if_pos (by omega)])
      clear ho HO hAt
      go_wp2_with (go_at_call 67; refine (fits_any _ _ _).mono ?_; rintro e w' ⟨rfl, rfl⟩; (first | rw [H0.out] | rw [H1.out] | rw [H2.out] | skip))
      go_ret
      exact ⟨ret_int (by rw [HE.out]), hB⟩
    · have HE := Lib.hid (show chkI q = 0 by rw [chkI, if_pos ho, if_neg (by omega)])
      clear ho HO hAt
      go_wp2_with (go_at_call 67; refine (fits_any _ _ _).mono ?_; rintro e w' ⟨rfl, rfl⟩; (first | rw [H0.out] | rw [H1.out] | rw [H2.out] | skip))
      go_ret
      exact ⟨ret_int (by rw [HE.out]), hB⟩
  · have HE := Lib.hid (show chkI q = 1 by rw [chkI, if_neg ho])
    have hno : ¬ (fitsB q.typ 1 = true ∧ fitsB q.code 1 = true ∧ fitsB q.rest 4 = true) := fun h => ho (HO.out.2 h)
    clear ho HO hAt
    cases h0 : fitsB q.typ 1
    · have H0 := Lib.hid h0; have H1 := H0; have H2 := H0
      clear hno h0
      go_wp2_with (go_at_call 67; refine (fits_any _ _ _).mono ?_; rintro e w' ⟨rfl, rfl⟩; (first | rw [H0.out] | rw [H1.out] | rw [H2.out] | skip))
      go_ret
      exact ⟨ret_int (by rw [HE.out]), hB⟩
    · have H0 := Lib.hid h0
      rw [h0] at hno; clear h0
      cases h1 : fitsB q.code 1
      · have H1 := Lib.hid h1; have H2 := H1
        clear hno h1
        go_wp2_with (go_at_call 67; refine (fits_any _ _ _).mono ?_; rintro e w' ⟨rfl, rfl⟩; (first | rw [H0.out] | rw [H1.out] | rw [H2.out] | skip))
        go_ret
        exact ⟨ret_int (by rw [HE.out]), hB⟩
      · have H1 := Lib.hid h1
        rw [h1] at hno; clear h1
        cases h2 : fitsB q.rest 4
        · have H2 := Lib.hid h2
          clear hno h2
          go_wp2_with (go_at_call 67; refine (fits_any _ _ _).mono ?_; rintro e w' ⟨rfl, rfl⟩; (first | rw [H0.out] | rw [H1.out] | rw [H2.out] | skip))
          go_ret
          exact ⟨ret_int (by rw [HE.out]), hB⟩
        · exact absurd ⟨rfl, rfl, h2⟩ hno
end
end Go.Proofs.YtpoigngpdcmipaaGreat
namespace Go.Proofs.YtpoigngpdcmipaaGreat
open Go.RowKit
theorem ofhE {W : World} {g : Nat} {q : P4} {A : Option Addr} {c : Nat} {A' : Option Addr} {c' t : Nat} {fr : Nat × Nat} (h : W.heap[g]? = some (.cells (v4a q A c A' c') t fr)) : At4 W g q A c A' c' := fun j v hj => by
  rw [cell_of_row W g (0 + j) _ _ _ h, Nat.zero_add, ← Array.getElem?_toList]; exact hj
set_option maxRecDepth 100000 in
set_option maxHeartbeats 1000000 in
theorem cEtells (b : List UInt8) (A : Option Addr) (c B : Nat) (w : World) (hA : Arg w B A c b) :
    Calls Tryz.prog 143 #[.slice A b.length c] w fun e w' => e = .returned (.bool (tnE b)) ∧ Below w.heap.size w w' := by
  by_cases h0 : 0 < b.length
  · have d0 : decide (0 < (b.length : Int)) = true := by simp; omega
    have HT := Lib.hid (show tnE b = !fltI (byt b 0) by rw [tnE, decide_eq_true h0]; rfl)
    obtain ⟨g, off, rfl, hb0, hc0⟩ := hA.rd (by omega)
    have kd0 := hc0 0 (by omega)
    rw [Nat.add_zero] at kd0
    obtain ⟨X0, hX0⟩ : ∃ x, x = byt b 0 := ⟨_, rfl⟩
    have HX0 : IntKind.i64.wrap X0 = X0 := IntWalk.i64_in X0 (by have := byt_lo b 0; have := byt_hi b 0; omega)
    rw [← hX0] at kd0 HT
    clear hX0 hc0 hA
    go_enter Tryz.func143, Tryz.ntmps143
    go_wp2_with (go_at_call 165; refine (cIfault _ _).mono ?_; rintro e w1 ⟨rfl, x1⟩)
    go_ret
    exact ⟨ret_bool HT.out.symm, x1⟩
  · have d0 : decide (0 < (b.length : Int)) = false := decide_eq_false (by omega)
    have HT := Lib.hid (show tnE b = false by rw [tnE, decide_eq_false h0]; rfl)
    go_enter Tryz.func143, Tryz.ntmps143
    go_wp2_with fail
    go_ret
    exact ⟨ret_bool HT.out.symm, Below.refl _ _⟩
set_option maxRecDepth 100000 in
set_option maxHeartbeats 4000000 in
theorem cEmay (b : List UInt8) (A : Option Addr) (c B : Nat) (w : World) (hA : Arg w B A c b) (hB : B ≤ w.heap.size) (hl : b.length ≤ 1000000) :
    Calls Tryz.prog 112 #[.slice A b.length c] w fun e w' => e = .returned (.bool (mayE b)) ∧ Below w.heap.size w w' := by
  obtain ⟨q, hq⟩ : ∃ q, q = prsV b true := ⟨_, rfl⟩
  obtain ⟨E, hEe⟩ : ∃ E, E = prsE b true := ⟨_, rfl⟩
  have HE := Lib.hid hEe
  have HQ := Lib.hid hq
  have HM : Hid (mayE b = okE E q) := Lib.hid (by rw [hEe, hq]; rfl)
  have hof : 0 ≤ q.off := by rw [hq]; exact raw_off b
  clear hq hEe
  go_enter Tryz.func112, Tryz.ntmps112
  go_upto_region 2 with (first
    | (go_at_call 113; refine (c4quoted b A c w B hA hB hl).mono ?_; rintro e w1 ⟨P, p, P', p', rfl, mo, md⟩; rw [← HQ.out] at mo md; rw [← HQ.out, ← HE.out])
    | ((with_reducible show wpList _ _ _ (Oper.mk _ (Op.store _ _ _) _ _ _ _ :: _) _ _); refine v4_store_new (cs := v4a q P p P' p') rfl rfl rfl rfl (v4a_one _ _ _ _ _) ?_))
  have hbox := World.alloc_heap_new w1 (.cells (v4a q P p P' p') 46)
  have hW : Below w.heap.size w (w1.alloc (.cells (v4a q P p P' p') 46)) := mo.below.alloc mo.below.size _
  obtain ⟨_, _, e2, gd, _, _⟩ := made_shape md
  cases e2
  have gd := gd.alloc (Nat.le_refl _) (.cells (v4a q P p P' p') 46)
  have hz : w1.heap.size < (w1.alloc (.cells (v4a q P p P' p') 46)).heap.size := by simp
  have hBW : w.heap.size ≤ w1.heap.size := mo.below.size
  generalize w1.alloc (.cells (v4a q P p P' p') 46) = W at *
  have at0 := ofhE hbox
  have kpr := at0.proto
  have kof := at0.off
  have ksr := at0.src
  have kds := at0.dst
  have kda := at0.dat
  clear at0 mo md hA
  by_cases h1 : E = 0
  · have e1 : (E == 0) = true := by simp [h1]
    have n1 : (E != 0) = false := by simp [h1]
    clear h1
    by_cases h2 : q.off = 0
    · have e2 : (q.off == 0) = true := by simp [h2]
      have m2 : decide (0 < q.off) = false := by simp [h2]
      clear h2 hof
      cases h3 : hostB q.src
      · have HS := Lib.hid h3
        have E3 := Lib.hid (show okE E q = false by rw [okE, h3]; simp)
        clear h3
        go_wp2_with (first
        | ((with_reducible show Calls _ _ #[.int .i64 q.src] _ _); refine (c3host q.src _).mono ?_; rintro e w2 ⟨rfl, x2⟩; rw [HS.out]; have hW := hW.trans (x2.mono hW.size); have kpr := (x2.cell (p := ⟨w1.heap.size, 4, none⟩) hz).trans kpr; have ksr := (x2.cell (p := ⟨w1.heap.size, 5, none⟩) hz).trans ksr; have kds := (x2.cell (p := ⟨w1.heap.size, 6, none⟩) hz).trans kds; have kda := (x2.cell (p := ⟨w1.heap.size, 10, none⟩) hz).trans kda; have gd := gd.below (x2.mono (Nat.le_of_lt hz)); have hz := Nat.lt_of_lt_of_le hz x2.size)
          | fail)
        go_ret
        exact ⟨ret_bool (by rw [HM.out, E3.out]), hW⟩
      · have HS := Lib.hid h3
        cases h4 : hostB q.dst
        · have HD := Lib.hid h4
          have E3 := Lib.hid (show okE E q = false by rw [okE, h4]; simp)
          clear h3 h4
          go_wp2_with (first
          | ((with_reducible show Calls _ _ #[.int .i64 q.src] _ _); refine (c3host q.src _).mono ?_; rintro e w2 ⟨rfl, x2⟩; rw [HS.out]; have hW := hW.trans (x2.mono hW.size); have kpr := (x2.cell (p := ⟨w1.heap.size, 4, none⟩) hz).trans kpr; have ksr := (x2.cell (p := ⟨w1.heap.size, 5, none⟩) hz).trans ksr; have kds := (x2.cell (p := ⟨w1.heap.size, 6, none⟩) hz).trans kds; have kda := (x2.cell (p := ⟨w1.heap.size, 10, none⟩) hz).trans kda; have gd := gd.below (x2.mono (Nat.le_of_lt hz)); have hz := Nat.lt_of_lt_of_le hz x2.size)
          | ((with_reducible show Calls _ _ #[.int .i64 q.dst] _ _); refine (c3host q.dst _).mono ?_; rintro e w3 ⟨rfl, x3⟩; rw [HD.out]; have hW := hW.trans (x3.mono hW.size); have kpr := (x3.cell (p := ⟨w1.heap.size, 4, none⟩) hz).trans kpr; have ksr := (x3.cell (p := ⟨w1.heap.size, 5, none⟩) hz).trans ksr; have kds := (x3.cell (p := ⟨w1.heap.size, 6, none⟩) hz).trans kds; have kda := (x3.cell (p := ⟨w1.heap.size, 10, none⟩) hz).trans kda; have gd := gd.below (x3.mono (Nat.le_of_lt hz)); have hz := Nat.lt_of_lt_of_le hz x3.size)
            | fail)
          go_ret
          exact ⟨ret_bool (by rw [HM.out, E3.out]), hW⟩
        · have HD := Lib.hid h4
          by_cases h5 : q.proto = 1
          · have e5 : (q.proto != 1) = false := by simp [h5]
            have E3 := Lib.hid (show okE E q = tnE q.dat by rw [okE, e1, e2, h3, h4, e5]; rfl)
            clear h3 h4 h5
            go_wp2_with (first
            | ((with_reducible show Calls _ _ #[.int .i64 q.src] _ _); refine (c3host q.src _).mono ?_; rintro e w2 ⟨rfl, x2⟩; rw [HS.out]; have hW := hW.trans (x2.mono hW.size); have kpr := (x2.cell (p := ⟨w1.heap.size, 4, none⟩) hz).trans kpr; have ksr := (x2.cell (p := ⟨w1.heap.size, 5, none⟩) hz).trans ksr; have kds := (x2.cell (p := ⟨w1.heap.size, 6, none⟩) hz).trans kds; have kda := (x2.cell (p := ⟨w1.heap.size, 10, none⟩) hz).trans kda; have gd := gd.below (x2.mono (Nat.le_of_lt hz)); have hz := Nat.lt_of_lt_of_le hz x2.size)
            | ((with_reducible show Calls _ _ #[.int .i64 q.dst] _ _); refine (c3host q.dst _).mono ?_; rintro e w3 ⟨rfl, x3⟩; rw [HD.out]; have hW := hW.trans (x3.mono hW.size); have kpr := (x3.cell (p := ⟨w1.heap.size, 4, none⟩) hz).trans kpr; have ksr := (x3.cell (p := ⟨w1.heap.size, 5, none⟩) hz).trans ksr; have kds := (x3.cell (p := ⟨w1.heap.size, 6, none⟩) hz).trans kds; have kda := (x3.cell (p := ⟨w1.heap.size, 10, none⟩) hz).trans kda; have gd := gd.below (x3.mono (Nat.le_of_lt hz)); have hz := Nat.lt_of_lt_of_le hz x3.size)
            | (go_at_call 143; refine (cEtells q.dat P' p' _ _ gd).mono ?_; rintro e w4 ⟨rfl, x4⟩; have hW := hW.trans (x4.mono hW.size))
              | fail)
            go_ret
            exact ⟨ret_bool (by rw [HM.out, E3.out]), hW⟩
          · have e5 : (q.proto != 1) = true := by simp [h5]
            have E3 := Lib.hid (show okE E q = true by rw [okE, e1, e2, h3, h4, e5]; rfl)
            clear h3 h4 h5
            go_wp2_with (first
            | ((with_reducible show Calls _ _ #[.int .i64 q.src] _ _); refine (c3host q.src _).mono ?_; rintro e w2 ⟨rfl, x2⟩; rw [HS.out]; have hW := hW.trans (x2.mono hW.size); have kpr := (x2.cell (p := ⟨w1.heap.size, 4, none⟩) hz).trans kpr; have ksr := (x2.cell (p := ⟨w1.heap.size, 5, none⟩) hz).trans ksr; have kds := (x2.cell (p := ⟨w1.heap.size, 6, none⟩) hz).trans kds; have kda := (x2.cell (p := ⟨w1.heap.size, 10, none⟩) hz).trans kda; have gd := gd.below (x2.mono (Nat.le_of_lt hz)); have hz := Nat.lt_of_lt_of_le hz x2.size)
            | ((with_reducible show Calls _ _ #[.int .i64 q.dst] _ _); refine (c3host q.dst _).mono ?_; rintro e w3 ⟨rfl, x3⟩; rw [HD.out]; have hW := hW.trans (x3.mono hW.size); have kpr := (x3.cell (p := ⟨w1.heap.size, 4, none⟩) hz).trans kpr; have ksr := (x3.cell (p := ⟨w1.heap.size, 5, none⟩) hz).trans ksr; have kds := (x3.cell (p := ⟨w1.heap.size, 6, none⟩) hz).trans kds; have kda := (x3.cell (p := ⟨w1.heap.size, 10, none⟩) hz).trans kda; have gd := gd.below (x3.mono (Nat.le_of_lt hz)); have hz := Nat.lt_of_lt_of_le hz x3.size)
              | fail)
            go_ret
            exact ⟨ret_bool (by rw [HM.out, E3.out]), hW⟩
    · have e2 : (q.off == 0) = false := by simp [h2]
      have m2 : decide (0 < q.off) = true := by simp; omega
      have E3 := Lib.hid (show okE E q = false by rw [okE, e2]; simp)
      clear h2 hof
      go_wp2_with fail
      go_ret
      exact ⟨ret_bool (by rw [HM.out, E3.out]), hW⟩
  · have e1 : (E == 0) = false := by simp [h1]
    have n1 : (E != 0) = true := by simp [h1]
    have E3 := Lib.hid (show okE E q = false by rw [okE, e1]; rfl)
    clear h1 hof
    go_wp2_with fail
    go_ret
    exact ⟨ret_bool (by rw [HM.out, E3.out]), hW⟩
end Go.Proofs.YtpoigngpdcmipaaGreat
namespace Go.Proofs.YtpoigngpdcmipaaGreat
open Go.RowKit
theorem arg_two (W : World) (t : TypeId) (x y : UInt8) {m n : Int} (h : m = (x.toNat : Int)) (h' : n = (y.toNat : Int)) : Arg (W.alloc (.cells #[.int .u8 m, .int .u8 n] t)) (W.heap.size + 1) (some ⟨W.heap.size, 0, none⟩) 2 [x, y] :=
  ⟨Rd.of_block (World.alloc_heap_new W _) (Nat.lt_succ_self _) 0 (fun j hj => by
    have : j = 0 ∨ j = 1 := by have := hj; simp at this; omega
    rcases this with rfl | rfl
    · subst h; rfl
    · subst h'; rfl), by simp, fun e => by cases e⟩
section
variable (q : PI) (A : Option Addr) (c : Nat) (w : World)
set_option maxRecDepth 100000 in
set_option maxHeartbeats 1000000 in
theorem cIhead (s : Int) (hd : List UInt8) (hhd : Hid (hd = hdI q s)) (ha : argI q) (s0 : 0 ≤ s) (s1 : s ≤ 65535) :
    Calls Tryz.prog 145 #[isv q A c, .int .i64 s] w fun e w' => ∃ v, e = .returned v ∧ Made w w' v hd := by
  have hB : Below w.heap.size w (w.alloc (.cells (isa q A c) 160)) := (Below.refl w.heap.size w).alloc (Nat.le_refl _) _
  have hAt := Atis.new (q := q) (A := A) (c := c) w
  have hz : w.heap.size < (w.alloc (.cells (isa q A c) 160)).heap.size := by simp
  rw [isv_eq]
  obtain ⟨L1, h1⟩ : ∃ l, l = [u8 q.typ, u8 q.code] ++ be2 s := ⟨_, rfl⟩
  have H1 := Lib.hid (show putB [u8 q.typ, u8 q.code] s 2 = L1 by rw [put_two s0 s1, h1])
  have H2 := Lib.hid (show putB L1 q.rest 4 = hd by rw [put_four ha.2.2.2.2.1 ha.2.2.2.2.2, h1, hhd.out, hdI])
  have l1 := Lib.hid (show L1.length ≤ 4 by rw [h1]; simp [be2])
  have kt : q.typ % 256 = ((u8 q.typ).toNat : Int) := by rw [u8_val]
  have kc : q.code % 256 = ((u8 q.code).toNat : Int) := by rw [u8_val]
  have hA0 : ∀ W : World, Arg (W.alloc (.cells #[.int .u8 (q.typ % 256), .int .u8 (q.code % 256)] 5)) (W.heap.size + 1) (some ⟨W.heap.size, 0, none⟩) 2 [u8 q.typ, u8 q.code] := fun W => arg_two W 5 (u8 q.typ) (u8 q.code) kt kc
  clear h1 ha kt kc
  have k0 := hAt.typ; have k1 := hAt.code
  go_enter Tryz.func145, Tryz.ntmps145
  go_upto_region 1 with fail
  generalize w.alloc (.cells (isa q A c) 160) = W at *
  go_upto_region 2 with fail
  have hA0 := hA0 W
  have xR : Below W.heap.size W (W.alloc (.cells #[.int .u8 (q.typ % 256), .int .u8 (q.code % 256)] 5)) := (Below.refl _ W).alloc (Nat.le_refl _) _
  have hAtR := hAt.below xR (by omega)
  have zR : W.heap.size + 1 ≤ (W.alloc (.cells #[.int .u8 (q.typ % 256), .int .u8 (q.code % 256)] 5)).heap.size := by simp
  have hzR : w.heap.size < (W.alloc (.cells #[.int .u8 (q.typ % 256), .int .u8 (q.code % 256)] 5)).heap.size := by omega
  clear k0 k1 hAt
  generalize W.alloc (.cells #[.int .u8 (q.typ % 256), .int .u8 (q.code % 256)] 5) = R at *
  refine wp_region_held_drew (S := fun w' => Below R.heap.size R w') (by kernel_rfl) (Below.refl _ R).drew (fun hS => ?_)
  refine held_pure (i := 0) (oi := ⟨some 13, _, _, _, _, _⟩) rfl (by kernel_rfl) (by kernel_rfl) (by kernel_rfl) (fun _ _ _ h => h) (by rfl) (v := ?_) (fun w hSw => ?_) hS (fun hS => ?_)
  rotate_left
  · go_simp; try with_reducible rfl
  try go_frame
  refine held_pure (i := 1) (oi := ⟨some 14, _, _, _, _, _⟩) rfl (by kernel_rfl) (by kernel_rfl) (by kernel_rfl) (fun _ _ _ h => h) (by rfl) (v := ?_) (fun w hSw => ?_) hS (fun hS => ?_)
  rotate_left
  · go_simp; try with_reducible rfl
  try go_frame
  refine held_pure (i := 3) (oi := ⟨some 16, _, _, _, _, _⟩) rfl (by kernel_rfl) (by kernel_rfl) (by kernel_rfl) (fun _ _ _ h => h) (by rfl) (v := ?_) (fun w hSw => ?_) hS (fun hS => ?_)
  rotate_left
  · go_simp; try with_reducible rfl
  try go_frame
  refine held_pure (i := 4) (oi := ⟨some 17, _, _, _, _, _⟩) rfl (by kernel_rfl) (by kernel_rfl) (by kernel_rfl) (fun _ _ _ h => h) (by rfl) (fun w hSw => run_load_int rfl rfl ((hAtR.below hSw hzR).rest)) hS (fun hS => ?_)
  try go_frame
  refine wpAnyH_ready (rs := [2]) (by kernel_rfl) (by simp) (AllReadyH.cons (o := ⟨some 15, _, _, _, _, _⟩) rfl (fun K hK => ?_) AllReadyH.nil)
  rw [if_pos (by rfl)]
  go_simp
  refine (put_any (some ⟨W.heap.size, 0, none⟩) [u8 q.typ, u8 q.code] 2 _ s 2 _ (hA0.below (hS.mono zR)).rd (by have := hS.size; omega) (by simp)).mono ?_
  rintro e w1 ⟨v1, rfl, m1⟩
  rw [H1.out] at m1
  obtain ⟨A1, c1, rfl, g1, o1, x1⟩ := made_shape m1
  have hS1 := hS
  show K _ _
  refine hK.out _ _ (below_step hS x1) (fun hS => ?_)
  clear hK K
  try go_frame
  refine wpAnyH_ready (rs := [5]) (by kernel_rfl) (by simp) (AllReadyH.cons (o := ⟨some 18, _, _, _, _, _⟩) rfl (fun K hK => ?_) AllReadyH.nil)
  rw [if_pos (by rfl)]
  go_simp
  refine (put_any A1 L1 c1 _ q.rest 4 _ g1.rd (by have := hS.size; omega) (by have := l1.out; omega)).mono ?_
  rintro e w2 ⟨v2, rfl, m2⟩
  rw [H2.out] at m2
  obtain ⟨A2, c2, rfl, g2, o2, x2⟩ := made_shape m2
  have hS2 := hS
  show K _ _
  refine hK.out _ _ (below_step hS x2) (fun hS => ?_)
  clear hK K
  try go_frame
  refine held_pure (i := 6) (oi := ⟨some 4, _, _, _, _, _⟩) rfl (by kernel_rfl) (by kernel_rfl) (by kernel_rfl) (fun _ _ _ h => h) (by rfl) (v := ?_) (fun w hSw => ?_) hS (fun hS => ?_)
  rotate_left
  · go_simp; try with_reducible rfl
  try go_frame
  refine wpAnyH_done (by kernel_rfl) ?_ _
  go_wp2_with fail
  go_ret
  exact ⟨_, rfl, m2.after (hB.trans ((xR.trans (hS2.mono (by omega))).mono (by omega)))⟩
end
end Go.Proofs.YtpoigngpdcmipaaGreat
namespace Go.Proofs.YtpoigngpdcmipaaGreat
open Go.RowKit
theorem of_two (A : Option Addr) (a b : List UInt8) (c B : Nat) (N : Int) (hN : Hid (N = 65535 - fold (psum [a, b]))) (w : World) (h : Rd2 w B A [a, b]) (hB : B ≤ w.heap.size) (hl : a.length + b.length ≤ 1099511627000) :
    Calls Tryz.prog 146 #[.slice A 2 c] w fun x w' => x = .returned (.int .i64 N) ∧ Below w.heap.size w w' := by
  have h1 := of_any A [a, b] c B w h hB (by rw [bulk2]; omega) (by simp)
  rw [← hN.out] at h1
  exact h1
section
variable (q : PI) (A : Option Addr) (c : Nat) (w : World)
set_option maxRecDepth 100000 in
set_option maxHeartbeats 1000000 in
theorem cIbuild (B : Nat) (hD : Arg w B A c q.dat) (hB0 : B ≤ w.heap.size) (hl : q.dat.length ≤ 1000000) :
    Calls Tryz.prog 115 #[isv q A c] w fun e w' => ∃ v, e = .returned (.tuple #[v, .int .i64 (chkI q)]) ∧ (chkI q ≠ 0 → v = .slice none 0 0 ∧ Below w.heap.size w w') ∧ (chkI q = 0 → Made w w' v (bldI [] q)) := by
  have hB : Below w.heap.size w (w.alloc (.cells (isa q A c) 160)) := (Below.refl w.heap.size w).alloc (Nat.le_refl _) _
  have hAt := Atis.new (q := q) (A := A) (c := c) w
  have hz : w.heap.size < (w.alloc (.cells (isa q A c) 160)).heap.size := by simp
  rw [isv_eq]
  go_enter Tryz.func115, Tryz.ntmps115
  go_upto_region 1 with fail
  generalize w.alloc (.cells (isa q A c) 160) = W at *
  by_cases hc : chkI q = 0
  · have HC := Lib.hid hc
    obtain ⟨ha, hl2⟩ := chkI_ok hc
    clear hc
    obtain ⟨N, hN⟩ : ∃ n, n = smI [] q := ⟨_, rfl⟩
    have bd := smI_bd [] q
    have hN0 : 0 ≤ N := by rw [hN]; exact bd.1
    have hN1 : N ≤ 65535 := by rw [hN]; exact bd.2
    obtain ⟨HD, hHD⟩ : ∃ l, l = hdI q 0 := ⟨_, rfl⟩
    obtain ⟨HE, hHE⟩ : ∃ l, l = hdI q N := ⟨_, rfl⟩
    have HSM := Lib.hid (show N = 65535 - fold (psum [HD, q.dat]) by rw [hN, hHD]; exact smI_nil q)
    have HHL := Lib.hid (show HD.length = 8 by rw [hHD, hdI_len])
    have HEL := Lib.hid (show HE.length = 8 by rw [hHE, hdI_len])
    have HBL := Lib.hid (show bldI [] q = HE ++ q.dat by rw [hHE, hN]; rfl)
    have HHD := Lib.hid hHD; have HHE := Lib.hid hHE
    clear hHD hHE
    clear bd hN
    go_upto_region 4 with (first
      | ((with_reducible show wpList _ _ _ (Oper.mk _ (Op.load 160 _) _ _ _ _ :: _) _ _); refine wpList_val rfl (run_load_is rfl rfl hAt rfl) ?_)
      | (go_at_call 144; refine (cIcheck q A c _ hl).mono ?_; rintro e w1 ⟨rfl, x1⟩; rw [HC.out]))
    refine wp_region_held_drew (S := fun w' => Below W.heap.size W w') (by kernel_rfl) x1.drew (fun hS => ?_)
    refine held_pure (i := 0) (oi := ⟨some 10, _, _, _, _, _⟩) rfl (by kernel_rfl) (by kernel_rfl) (by kernel_rfl) (fun _ _ _ h => h) (by rfl) (fun w hSw => run_load_is rfl rfl (hAt.below hSw (by omega)) rfl) hS (fun hS => ?_)
    try go_frame
    refine held_pure (i := 1) (oi := ⟨some 11, _, _, _, _, _⟩) rfl (by kernel_rfl) (by kernel_rfl) (by kernel_rfl) (fun _ _ _ h => h) (by rfl) (fun w hSw => run_load_is rfl rfl (hAt.below hSw (by omega)) rfl) hS (fun hS => ?_)
    try go_frame
    refine held_pure (i := 3) (oi := ⟨some 13, _, _, _, _, _⟩) rfl (by kernel_rfl) (by kernel_rfl) (by kernel_rfl) (fun _ _ _ h => h) (by rfl) (v := ?_) (fun w hSw => ?_) hS (fun hS => ?_)
    rotate_left
    · go_simp; try with_reducible rfl
    try go_frame
    refine held_pure (i := 4) (oi := ⟨some 14, _, _, _, _, _⟩) rfl (by kernel_rfl) (by kernel_rfl) (by kernel_rfl) (fun _ _ _ h => h) (by rfl) (fun w hSw => run_load_sl rfl rfl ((hAt.below hSw (by omega)).dat)) hS (fun hS => ?_)
    try go_frame
    refine held_pure (i := 8) (oi := ⟨some 18, _, _, _, _, _⟩) rfl (by kernel_rfl) (by kernel_rfl) (by kernel_rfl) (fun _ _ _ h => h) (by rfl) (v := ?_) (fun w hSw => ?_) hS (fun hS => ?_)
    rotate_left
    · go_simp; try with_reducible rfl
    try go_frame
    refine held_pure (i := 9) (oi := ⟨some 19, _, _, _, _, _⟩) rfl (by kernel_rfl) (by kernel_rfl) (by kernel_rfl) (fun _ _ _ h => h) (by rfl) (fun w hSw => run_load_sl rfl rfl ((hAt.below hSw (by omega)).dat)) hS (fun hS => ?_)
    try go_frame
    refine wpAnyH_ready (rs := [2]) (by kernel_rfl) (by simp) (AllReadyH.cons (o := ⟨some 12, _, _, _, _, _⟩) rfl (fun K hK => ?_) AllReadyH.nil)
    rw [if_pos (by rfl)]
    go_simp
    refine (cIhead q A c _ 0 HD HHD ha (by omega) (by omega)).mono ?_
    rintro e w2 ⟨v2, rfl, m2⟩
    obtain ⟨A2, c2, rfl, g2, o2, x2⟩ := made_shape m2
    have hS2 := below_step hS x2
    have hT2 := hS
    show K _ _
    refine hK.out _ _ (below_step hS x2) (fun hS => ?_)
    clear hK K
    try go_frame
    refine wpAnyH_ready (rs := [5]) (by kernel_rfl) (by simp) (AllReadyH.cons (o := ⟨some 15, _, _, _, _, _⟩) rfl (fun K hK => ?_) AllReadyH.nil)
    rw [if_pos (by rfl)]
    go_simp
    refine hK.out _ _ (hS.alloc hS.size _) (fun hS => ?_)
    clear hK K
    try go_frame
    refine wpAnyH_ready (rs := [6]) (by kernel_rfl) (by simp) (AllReadyH.cons (o := ⟨some 16, _, _, _, _, _⟩) rfl (fun K hK => ?_) AllReadyH.nil)
    rw [if_pos (by rfl)]
    go_simp
    refine (of_two (some ⟨w2.heap.size, 0, none⟩) HD q.dat 2 _ N HSM _ (Rd2.two rfl rfl (World.alloc_heap_new w2 _) (Nat.lt_succ_self _) ((g2.alloc (Nat.le_refl _) _).more (Nat.le_succ _)) (((hD.below ((hB.trans (hS2.mono (by omega))).mono hB0)).alloc (by have := hS2.size; omega) _).more (by have := hS2.size; omega))) (by simp) (by have := HHL.out; omega)).mono ?_
    rintro e w6 ⟨rfl, x6⟩
    show K _ _
    refine hK.out _ _ (below_step hS x6) (fun hS => ?_)
    clear hK K
    try go_frame
    refine wpAnyH_ready (rs := [7]) (by kernel_rfl) (by simp) (AllReadyH.cons (o := ⟨some 17, _, _, _, _, _⟩) rfl (fun K hK => ?_) AllReadyH.nil)
    rw [if_pos (by rfl)]
    go_simp
    refine (cIhead q A c _ N HE HHE ha (by omega) (by omega)).mono ?_
    rintro e w7 ⟨v7, rfl, m7⟩
    obtain ⟨A7, c7, rfl, g7, o7, x7⟩ := made_shape m7
    have hS7 := below_step hS x7
    have hT7 := hS
    show K _ _
    refine hK.out _ _ (below_step hS x7) (fun hS => ?_)
    clear hK K
    try go_frame
    refine wpAnyH_ready (rs := [10]) (by kernel_rfl) (by simp) (AllReadyH.cons (o := ⟨some 20, _, _, _, _, _⟩) rfl (fun K hK => ?_) AllReadyH.nil)
    rw [if_pos (by rfl)]
    refine append_wp _ _ rfl W.heap.size _ _ _ rfl (own_base o7 (by have := hT7.size; omega)) B A c q.dat rfl hD.none_ ((hD.below ((hB.trans (hS.mono (by omega))).mono hB0)).rd) (by have := HEL.out; omega) hS.size ?_
    intro v8 w8 own8 grow8
    obtain ⟨A8, c8, rfl, owm8⟩ := own_made (bs := bldI [] q) own8 (by rw [HBL.out]; simp) (by rw [HBL.out, row_append])
    refine hK.out _ _ (hS.grown grow8 hS.size (fun k hk => own_block_ge (own_base o7 (by have := hT7.size; omega)) k hk)) (fun hS => ?_)
    clear hK K
    try go_frame
    refine held_pure (i := 11) (oi := ⟨some 2, _, _, _, _, _⟩) rfl (by kernel_rfl) (by kernel_rfl) (by kernel_rfl) (fun _ _ _ h => h) (by rfl) (v := ?_) (fun w hSw => ?_) hS (fun hS => ?_)
    rotate_left
    · go_simp; try with_reducible rfl
    try go_frame
    refine held_pure (i := 12) (oi := ⟨some 3, _, _, _, _, _⟩) rfl (by kernel_rfl) (by kernel_rfl) (by kernel_rfl) (fun _ _ _ h => h) (by rfl) (v := ?_) (fun w hSw => ?_) hS (fun hS => ?_)
    rotate_left
    · go_simp; try with_reducible rfl
    try go_frame
    refine wpAnyH_done (by kernel_rfl) ?_ _
    go_wp2_with fail
    go_ret2
    exact ⟨.slice A8 (bldI [] q).length c8, by rw [HC.out]; rfl, fun h => absurd HC.out h, fun _ => Made.of_own (own_base owm8 (by omega)) (hB.trans (hS.mono (by omega)))⟩
  · have hne : (chkI q != 0) = true := by simpa using hc
    have HN := Lib.hid hc
    clear hc
    go_wp2_with (first
      | ((with_reducible show wpList _ _ _ (Oper.mk _ (Op.load 160 _) _ _ _ _ :: _) _ _); refine wpList_val rfl (run_load_is rfl rfl hAt rfl) ?_)
      | (go_at_call 144; refine (cIcheck q A c _ hl).mono ?_; rintro e w1 ⟨rfl, x1⟩; skip))
    go_ret2
    exact ⟨.slice none 0 0, rfl, fun _ => ⟨rfl, hB.trans (x1.mono (by omega))⟩, fun h => absurd h HN.out⟩
end
end Go.Proofs.YtpoigngpdcmipaaGreat
namespace Go.Proofs.YtpoigngpdcmipaaGreat
open Go.RowKit
theorem cEmost (w : World) : Calls Tryz.prog 114 #[] w fun e w' => e = .returned (.int .i64 548) ∧ w = w' := by
  go_enter Tryz.func114, Tryz.ntmps114
  go_wp2_with fail
  go_ret
  exact ⟨rfl, rfl⟩
set_option maxRecDepth 100000 in
set_option maxHeartbeats 4000000 in
theorem cEmake (a k c r : Int) (b : List UInt8) (A : Option Addr) (cc B : Nat) (w : World) (hA : Arg w B A cc b) (hB : B ≤ w.heap.size) (hl : b.length ≤ 900000) :
    Calls Tryz.prog 87 #[.int .i64 a, .int .i64 k, .int .i64 c, .int .i64 r, .slice A b.length cc] w fun e w' => ∃ P' p', e = .returned (.tuple #[v4v (mkV a k c r b) none 0 P' p', .int .i64 (mkE a k c r b)]) ∧ Made w w' (.slice P' (mkV a k c r b).dat.length p') (mkV a k c r b).dat := by
  have hcap := hA.cap
  have hR0 := World.alloc_heap_new w (.cells #[.int .i64 0, .int .i64 0, .int .i64 0, .int .i64 0, .int .i64 0, .int .i64 0, .int .i64 0, .bool false, .bool false, .slice none 0 0, .slice none 0 0] 46)
  have hb0 : Below w.heap.size w (w.alloc (.cells #[.int .i64 0, .int .i64 0, .int .i64 0, .int .i64 0, .int .i64 0, .int .i64 0, .int .i64 0, .bool false, .bool false, .slice none 0 0, .slice none 0 0] 46)) := (Below.refl w.heap.size w).alloc (Nat.le_refl _) _
  have hz0 : w.heap.size < (w.alloc (.cells #[.int .i64 0, .int .i64 0, .int .i64 0, .int .i64 0, .int .i64 0, .int .i64 0, .int .i64 0, .bool false, .bool false, .slice none 0 0, .slice none 0 0] 46)).heap.size := by simp
  go_enter Tryz.func87, Tryz.ntmps87
  go_upto_region 1 with fail
  generalize w.alloc (.cells #[.int .i64 0, .int .i64 0, .int .i64 0, .int .i64 0, .int .i64 0, .int .i64 0, .int .i64 0, .bool false, .bool false, .slice none 0 0, .slice none 0 0] 46) = W at *
  have hA0 := hA.below (hb0.mono hB)
  clear hA
  cases hM : mayE b
  · have HM := Lib.hid hM
    have HE : Hid (mkE a k c r b = 11) := Lib.hid (by rw [mkE, if_neg (by rw [hM]; simp)])
    have HV : Hid (mkV a k c r b = p4z) := Lib.hid (by rw [mkV, if_neg (by rw [HE.out]; decide)])
    clear hM
    go_wp2_with (first
      | (go_at_call 112; refine (cEmay b A cc B W hA0 (Nat.le_trans hB hb0.size) (by omega)).mono ?_; rintro e w1 ⟨rfl, x1⟩; rw [HM.out]; have hR1 := (x1.block w.heap.size hz0).trans hR0; have hb1 := hb0.trans (x1.mono hb0.size))
      | ((with_reducible show wpList _ _ _ (Oper.mk _ (Op.store _ _ _) _ _ _ _ :: _) _ _); refine v4_store (g := w.heap.size) (cs := v4a p4z none 0 none 0) rfl rfl hR1 rfl rfl (v4a_one _ _ _ _ _) ?_))
    exact bodyPost_ret (res2 rfl rfl (run_loadVar_row _ _ _ 46 (v4a p4z none 0 none 0) _ _ (setRow_heap _ _ _ _ _ _ hR1) Tryz.underlying46 rfl (by kernel_rfl))) rfl ⟨none, 0, by rw [HE.out, HV.out]; rfl, by rw [HV.out]; exact Made.nil _ _ (below_row hb1 (Nat.le_refl _))⟩
  · have HM := Lib.hid hM
    have hE0 := may_ok hM
    obtain ⟨n0, n1, n2, n3⟩ := raw_len hE0
    have hnE := nE_le hM
    have hN : ((nE b : Nat) : Int) = min (size4 (prsV b true)) 548 := by unfold nE; omega
    obtain ⟨N, hNe⟩ : ∃ x, x = nE b := ⟨_, rfl⟩
    obtain ⟨D, hD⟩ : ∃ x, x = b.take (nE b) := ⟨_, rfl⟩
    have hDl : D.length = N := by rw [hD, hNe, List.length_take]; omega
    have hAD := hA0.cut_hi N (by omega)
    rw [hNe, ← hD] at hAD
    obtain ⟨q, hq⟩ : ∃ x, x = prsV b true := ⟨_, rfl⟩
    obtain ⟨MS, hMS⟩ : ∃ x : PI, x = ⟨k, c, r, D⟩ := ⟨_, rfl⟩
    have hMS' : MS = msE k c r b := by rw [hMS, msE, hD]
    rw [← hNe, ← hq] at hN
    have HN := Lib.hid hN
    have HQ := Lib.hid hq
    have HDL := Lib.hid hDl
    have hNb : N ≤ b.length := by omega
    have hN5 : N ≤ 548 := by omega
    rw [← hq] at n0 n1 n2 n3
    go_upto_region 2 with (go_at_call 112; refine (cEmay b A cc B W hA0 (Nat.le_trans hB hb0.size) (by omega)).mono ?_; rintro e w1 ⟨rfl, x1⟩; rw [HM.out])
    have hR1 := (x1.block w.heap.size hz0).trans hR0
    have hb1 := hb0.trans (x1.mono hb0.size)
    have hz1 := Nat.lt_of_lt_of_le hz0 x1.size
    have hA1 := hA0.below (x1.mono (Nat.le_trans hB hb0.size))
    have hD1 := hAD.below (x1.mono (Nat.le_trans hB hb0.size))
    have hE00 := Lib.hid hE0
    clear hM hE0 hnE hNe hDl hA0 hAD hq hN hD
    go_upto_region 4 with (first
      | (go_at_call 113; refine (c4quoted b A cc w1 B hA1 (Nat.le_trans hB hb1.size) (by omega)).mono ?_; rintro e w2 ⟨P, p, P', p', rfl, mo, md⟩; rw [← HQ.out, hE00.out])
      | ((with_reducible show wpList _ _ _ (Oper.mk _ (Op.store _ _ _) _ _ _ _ :: _) _ _); refine v4_store_new (cs := v4a q P p P' p') rfl rfl rfl rfl (v4a_one _ _ _ _ _) ?_))
    have hbox := World.alloc_heap_new w2 (.cells (v4a q P p P' p') 46)
    have x2 : Below w1.heap.size w1 (w2.alloc (.cells (v4a q P p P' p') 46)) := mo.below.alloc mo.below.size _
    have hz2 : w2.heap.size < (w2.alloc (.cells (v4a q P p P' p') 46)).heap.size := by simp
    have hg2 : w1.heap.size ≤ w2.heap.size := mo.below.size
    generalize w2.alloc (.cells (v4a q P p P' p') 46) = W2 at *
    have hR2 := (x2.block w.heap.size hz1).trans hR1
    have hb2 := hb1.trans (x2.mono hb1.size)
    have hD2 := hD1.below (x2.mono (Nat.le_trans hB hb1.size))
    have at2 := ofhE hbox
    clear mo md hA1 hD1 hR1 hR0
    go_upto_region 5 with (first
      | ((with_reducible show wpList _ _ _ (Oper.mk _ (Op.load 46 _) _ _ _ _ :: _) _ _); refine wpList_val rfl (run_load_v4 rfl rfl at2 rfl) ?_)
      | (go_at_call 111; refine (c4size q P p P' p' _ (by omega) (by omega)).mono ?_; rintro e w3 ⟨rfl, x3⟩)
      | (go_at_call 114; refine (cEmost _).mono ?_; rintro e w3b ⟨rfl, rfl⟩)
      | ((with_reducible show wpList _ _ _ (Oper.mk _ (Op.slice _ _ _ _ _) _ _ _ _ :: _) _ _); (refine wpList_val rfl (run_cut_h rfl rfl rfl (h := min (size4 q) 548) (by omega) (by omega) (m := D.length) (by have := HN.out; have := HDL.out; omega)) ?_)))
    have hR3 := (x3.block w.heap.size (by omega)).trans hR2
    have hb3 := hb2.trans (x3.mono hb2.size)
    have hD3 := hD2.below (x3.mono (Nat.le_trans hB hb2.size))
    have hbox3 := (x3.block w2.heap.size hz2).trans hbox
    have hz3 := Nat.lt_of_lt_of_le hz2 x3.size
    clear hR2 hD2 hbox at2
    by_cases hC : chkI MS = 0
    · have HC := Lib.hid hC
      rw [hMS] at hC
      have HCx := Lib.hid hC
      obtain ⟨BS, hBS⟩ : ∃ x, x = bldI [] (⟨k, c, r, D⟩ : PI) := ⟨_, rfl⟩
      have HBS := Lib.hid hBS
      have hBSl : BS.length = 8 + D.length := by rw [hBS, bldI_len]
      have HBL := Lib.hid hBSl
      clear hC hBS hBSl
      go_upto_region 6 with (first
        | (go_at_call 115; refine (cIbuild ⟨k, c, r, D⟩ A cc _ B hD3 (Nat.le_trans hB hb3.size) (by have := HDL.out; show D.length ≤ _; omega)).mono ?_; rintro e w4 ⟨v4, rfl, n4, m4⟩; have m4 := m4 HCx.out; rw [HCx.out]; rw [← HBS.out] at m4; obtain ⟨PB, p4, rfl, g4, o4, x4⟩ := made_shape m4))
      have hR4 := (x4.block w.heap.size (by omega)).trans hR3
      have hb4 := hb3.trans (x4.mono hb3.size)
      have at4 := ofhE ((x4.block w2.heap.size hz3).trans hbox3)
      have ksrc := at4.src
      obtain ⟨PK, hPK⟩ : ∃ x : P4, x = ⟨0, 0, 0, 64, 1, a, q.src, false, false, [], BS⟩ := ⟨_, rfl⟩
      have HPK := Lib.hid (show pkE a b (msE k c r b) = PK by rw [hPK, pkE, ← hMS', hMS, ← HBS.out, ← HQ.out])
      have hPo : PK.opt.length = 0 := by rw [hPK]; rfl
      have hPd : PK.dat = BS := by rw [hPK]
      have hpl : PK.dat.length ≤ 1000000 := by rw [hPd, HBL.out, HDL.out]; omega
      have hPV : v4a PK none 0 PB p4 = #[.int .i64 0, .int .i64 0, .int .i64 0, .int .i64 64, .int .i64 1, .int .i64 a, .int .i64 q.src, .bool false, .bool false, .slice none 0 0, .slice PB BS.length p4] := by rw [hPK]; rfl
      have HPV := Lib.hid hPV
      have HMSE := Lib.hid hMS'
      clear hMS hMS' hPK at4 hPV
      go_upto_region 9 with (first
        | ((with_reducible show wpList _ _ _ (Oper.mk _ (Op.store _ _ _) _ _ _ _ :: _) _ _); refine v4_store_new (cs := v4a PK none 0 PB p4) rfl (by rw [HPV.out]; rfl) rfl rfl (v4a_one _ _ _ _ _) ?_))
      have x5 : Below w4.heap.size w4 (w4.alloc (.cells (v4a PK none 0 PB p4) 46)) := (Below.refl _ w4).alloc (Nat.le_refl _) _
      have hbox5 := World.alloc_heap_new w4 (.cells (v4a PK none 0 PB p4) 46)
      have hz5 : w4.heap.size < (w4.alloc (.cells (v4a PK none 0 PB p4) 46)).heap.size := by simp
      generalize w4.alloc (.cells (v4a PK none 0 PB p4) 46) = W5 at *
      have at5 := ofhE hbox5
      have hR5 := (x5.block w.heap.size (by have := x4.size; omega)).trans hR4
      have hb5 := hb4.trans (x5.mono hb4.size)
      obtain ⟨CK, hCK⟩ : ∃ x, x = chk4 PK := ⟨_, rfl⟩
      have HCK := Lib.hid hCK
      by_cases hk0 : CK = 0
      · have HE : Hid (mkE a k c r b = 0) := Lib.hid (by rw [mkE, if_pos HM.out, if_pos (by rw [← HMSE.out]; exact HC.out), if_pos (by rw [HPK.out, ← hCK]; exact hk0)])
        have HV : Hid (mkV a k c r b = PK) := Lib.hid (by rw [mkV, if_pos HE.out, HPK.out])
        have HK0 := Lib.hid hk0
        clear hk0 hCK
        go_wp2_with (first
          | ((with_reducible show wpList _ _ _ (Oper.mk _ (Op.load 46 _) _ _ _ _ :: _) _ _); refine wpList_val rfl (run_load_v4 rfl rfl at5 rfl) ?_)
          | (go_at_call 84; refine (c4check PK none 0 PB p4 _ (by omega) hpl).mono ?_; rintro e w6 ⟨rfl, x6⟩; rw [← HCK.out, HK0.out]; have at5 := at5.below x6 hz5; have hR6 := (x6.block w.heap.size (by have := x4.size; have := x5.size; omega)).trans hR5)
          | ((with_reducible show wpList _ _ _ (Oper.mk _ (Op.store _ _ _) _ _ _ _ :: _) _ _); refine v4_store (g := w.heap.size) (cs := v4a PK none 0 PB p4) rfl rfl hR6 rfl rfl (v4a_one _ _ _ _ _) ?_))
        exact bodyPost_ret (res2 rfl rfl (run_loadVar_row _ _ _ 46 (v4a PK none 0 PB p4) _ _ (setRow_heap _ _ _ _ _ _ hR6) Tryz.underlying46 rfl (by kernel_rfl))) rfl ⟨PB, p4, by rw [HE.out, HV.out]; rfl, by rw [HV.out, hPd]; exact ((m4.later (x5.trans (x6.mono x5.size))).row hb3 (by omega))⟩
      · have HE : Hid (mkE a k c r b = 1) := Lib.hid (by rw [mkE, if_pos HM.out, if_pos (by rw [← HMSE.out]; exact HC.out), if_neg (by rw [HPK.out, ← hCK]; exact hk0)])
        have HV : Hid (mkV a k c r b = p4z) := Lib.hid (by rw [mkV, if_neg (by rw [HE.out]; decide)])
        have dK : (CK != 0) = true := by simpa using hk0
        clear hk0 hCK
        go_wp2_with (first
          | ((with_reducible show wpList _ _ _ (Oper.mk _ (Op.load 46 _) _ _ _ _ :: _) _ _); refine wpList_val rfl (run_load_v4 rfl rfl at5 rfl) ?_)
          | (go_at_call 84; refine (c4check PK none 0 PB p4 _ (by omega) hpl).mono ?_; rintro e w6 ⟨rfl, x6⟩; rw [← HCK.out]; have hR6 := (x6.block w.heap.size (by have := x4.size; have := x5.size; omega)).trans hR5; have hb6 := hb5.trans (x6.mono hb5.size))
          | ((with_reducible show wpList _ _ _ (Oper.mk _ (Op.store _ _ _) _ _ _ _ :: _) _ _); refine v4_store (g := w.heap.size) (cs := v4a p4z none 0 none 0) rfl rfl hR6 rfl rfl (v4a_one _ _ _ _ _) ?_))
        exact bodyPost_ret (res2 rfl rfl (run_loadVar_row _ _ _ 46 (v4a p4z none 0 none 0) _ _ (setRow_heap _ _ _ _ _ _ hR6) Tryz.underlying46 rfl (by kernel_rfl))) rfl ⟨none, 0, by rw [HE.out, HV.out]; rfl, by rw [HV.out]; exact Made.nil _ _ (below_row hb6 (Nat.le_refl _))⟩
    · have HE : Hid (mkE a k c r b = 1) := Lib.hid (by rw [mkE, if_pos HM.out, if_neg (by rw [← hMS']; exact hC)])
      have HV : Hid (mkV a k c r b = p4z) := Lib.hid (by rw [mkV, if_neg (by rw [HE.out]; decide)])
      rw [hMS] at hC
      obtain ⟨CK, hCK⟩ : ∃ x, x = chkI (⟨k, c, r, D⟩ : PI) := ⟨_, rfl⟩
      rw [← hCK] at hC
      have HCK := Lib.hid hCK
      have HC := Lib.hid hC
      have dK : (CK != 0) = true := by simpa using hC
      clear hC hCK hMS hMS'
      go_wp2_with (first
        | (go_at_call 115; refine (cIbuild ⟨k, c, r, D⟩ A cc _ B hD3 (Nat.le_trans hB hb3.size) (by have := HDL.out; show D.length ≤ _; omega)).mono ?_; rintro e w4 ⟨v4, rfl, n4, m4⟩; have n4 := n4 (by rw [← HCK.out]; exact HC.out); rw [← HCK.out]; obtain ⟨rfl, x4⟩ := n4; have hR4 := (x4.block w.heap.size (by omega)).trans hR3; have hb4 := hb3.trans (x4.mono hb3.size))
        | ((with_reducible show wpList _ _ _ (Oper.mk _ (Op.store _ _ _) _ _ _ _ :: _) _ _); refine v4_store (g := w.heap.size) (cs := v4a p4z none 0 none 0) rfl rfl hR4 rfl rfl (v4a_one _ _ _ _ _) ?_))
      exact bodyPost_ret (res2 rfl rfl (run_loadVar_row _ _ _ 46 (v4a p4z none 0 none 0) _ _ (setRow_heap _ _ _ _ _ _ hR4) Tryz.underlying46 rfl (by kernel_rfl))) rfl ⟨none, 0, by rw [HE.out, HV.out]; rfl, by rw [HV.out]; exact Made.nil _ _ (below_row hb4 (Nat.le_refl _))⟩
end Go.Proofs.YtpoigngpdcmipaaGreat
namespace Go.Proofs.YtpoigngpdcmipaaGreat
open Go.RowKit
end Go.Proofs.YtpoigngpdcmipaaGreat
