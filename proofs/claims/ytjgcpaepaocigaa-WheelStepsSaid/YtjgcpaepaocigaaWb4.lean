/-
  Contracts and lemmas on which the proofs of this seat stand (several texts in one). Conditions are each theorem's own.
-/
import Derived.Test.YtjgcpaepaocigaaWb3
import Derived.Test.YtjgcpaepaocigaaWb1

/-
  Which slots are reached, and who stays where it stands, when time passes (layer 17). No program. Conditions are each theorem's own.
-/
namespace Go.Proofs.Ytjgcpaepaocigaa
theorem bitLen_pos (x : Nat) (h0 : x ≠ 0) (h : x < 2 ^ 64) : 1 ≤ Lib.bitLen x := by rw [Lib.bitLen_half x h0 h]; omega
theorem lt_of_bitLen {x m : Nat} (hx : x < 2 ^ 64) (h : Lib.bitLen x ≤ m) : x < 2 ^ m := by
  rcases Nat.lt_or_ge x (2 ^ m) with h1 | h1
  · exact h1
  · exfalso
    have h2 := Lib.bitLen_shift m x h1 hx
    have h3 : x / 2 ^ m ≠ 0 := by
      intro e
      have := Nat.div_eq_zero_iff.1 e
      have hp := Nat.two_pow_pos m
      omega
    have h4 := bitLen_pos (x / 2 ^ m) h3 (Nat.lt_of_le_of_lt (Nat.div_le_self _ _) hx)
    omega
theorem xor_high {a n k : Nat} (h : a ^^^ n < 2 ^ k) : a / 2 ^ k = n / 2 ^ k := by
  apply Nat.eq_of_testBit_eq
  intro i
  rw [Nat.testBit_div_two_pow, Nat.testBit_div_two_pow]
  have h1 : (a ^^^ n).testBit (i + k) = false := Nat.testBit_lt_two_pow (Nat.lt_of_lt_of_le h (Nat.pow_le_pow_right (by decide) (by omega)))
  rw [Nat.testBit_xor] at h1
  simpa using h1
theorem xor_small {a n k : Nat} (h : a / 2 ^ k = n / 2 ^ k) : a ^^^ n < 2 ^ k := by
  refine Nat.lt_pow_two_of_testBit _ (fun i hi => ?_)
  have h1 := congrArg (fun x => Nat.testBit x (i - k)) h
  simp only [Nat.testBit_div_two_pow, show i - k + k = i by omega] at h1
  rw [Nat.testBit_xor, h1]
  simp
theorem div64 (a r : Nat) : a / 2 ^ (6 * r + 6) = a / 2 ^ (6 * r) / 64 := by
  rw [Nat.pow_add, ← Nat.div_div_eq_div_mul]
theorem ring_facts {a n : Nat} (ha : a ≤ 2 ^ 40) (hn : n ≤ a) : a / 2 ^ (6 * ringN a n) / 64 = n / 2 ^ (6 * ringN a n) / 64 ∧ (0 < ringN a n → n / 2 ^ (6 * ringN a n) < a / 2 ^ (6 * ringN a n)) := by
  have hx : a ^^^ n < 2 ^ 41 := Nat.xor_lt_two_pow (by omega) (by omega)
  have hx64 : a ^^^ n < 2 ^ 64 := by omega
  have h1 : Lib.bitLen (a ^^^ n) ≤ 6 * ringN a n + 6 := by unfold ringN; omega
  refine ⟨?_, fun hr => ?_⟩
  · rw [← div64, ← div64]
    exact xor_high (lt_of_bitLen hx64 h1)
  · rcases Nat.lt_or_ge (n / 2 ^ (6 * ringN a n)) (a / 2 ^ (6 * ringN a n)) with h2 | h2
    · exact h2
    · exfalso
      have h3 : a / 2 ^ (6 * ringN a n) = n / 2 ^ (6 * ringN a n) := Nat.le_antisymm h2 (Nat.div_le_div_right hn)
      have h4 := xor_small h3
      have h6 : 6 * ringN a n ≤ 64 := by
        have := Lib.bitLen_le (a ^^^ n) 41 (by decide) hx
        unfold ringN
        omega
      have h5 := Lib.bitLen_le (a ^^^ n) (6 * ringN a n) h6 h4
      unfold ringN at h5 hr
      omega
theorem ring_eq {a n r : Nat} (ha : a ≤ 2 ^ 40) (hn : n ≤ a) (h1 : a / 2 ^ (6 * r) / 64 = n / 2 ^ (6 * r) / 64) (h2 : 0 < r → n / 2 ^ (6 * r) < a / 2 ^ (6 * r)) (hr : r ≤ 6) : ringN a n = r := by
  have hx : a ^^^ n < 2 ^ 41 := Nat.xor_lt_two_pow (by omega) (by omega)
  have h3 : a ^^^ n < 2 ^ (6 * r + 6) := xor_small (by rw [div64, div64]; exact h1)
  have h4 := Lib.bitLen_le (a ^^^ n) (6 * r + 6) (by omega) h3
  have h5 : 0 < r → 6 * r + 1 ≤ Lib.bitLen (a ^^^ n) := fun h0 => by
    rcases Nat.lt_or_ge (6 * r) (Lib.bitLen (a ^^^ n)) with h6 | h6
    · exact h6
    · have h7 := lt_of_bitLen (by omega : a ^^^ n < 2 ^ 64) h6
      have h8 := xor_high h7
      have := h2 h0
      omega
  unfold ringN
  rcases Nat.eq_zero_or_pos r with h0 | h0
  · subst h0; omega
  · have := h5 h0; omega
/-- A timer stands where its time asks for. -/
structure Std (n : Nat) (e : Te) : Prop where
  q : e.q = slotN e.a n
  lo : n ≤ e.a
  hi : e.a ≤ 2 ^ 40
section
variable {n now : Nat} {e f : Te}
theorem Std.ring (h : Std n e) : e.q / 64 = ringN e.a n ∧ e.q % 64 = e.a / 2 ^ (6 * ringN e.a n) % 64 ∧ ringN e.a n ≤ 6 := by
  have h1 := h.q
  have h2 := Nat.mod_lt (e.a / 2 ^ (6 * ringN e.a n)) (show 0 < 64 by decide)
  have h3 := (slot_lt (a := e.a) (n := n) h.hi (Nat.le_trans h.lo h.hi)).1
  unfold slotN at h1
  omega
theorem Std.span (h : Std n e) : e.a / 2 ^ (6 * (e.q / 64)) = 64 * (n / 2 ^ (6 * (e.q / 64)) / 64) + e.q % 64 := by
  obtain ⟨h1, h2, _⟩ := h.ring
  have h3 := (ring_facts h.hi h.lo).1
  rw [h1, h2]
  omega
theorem tk_same (h : Std n e) (k : Std n f) (hq : e.q = f.q) : tkN now e = tkN now f := by
  unfold tkN shN
  rw [h.span, k.span, hq]
theorem tk_false (h : tkN now e = false) : now / 2 ^ (6 * (e.q / 64)) < e.a / 2 ^ (6 * (e.q / 64)) := by
  unfold tkN shN at h
  have := of_decide_eq_false h
  omega
theorem tk_lt (h : tkN now e = false) : now < e.a := by
  have h1 := tk_false h
  rcases Nat.lt_or_ge now e.a with h2 | h2
  · exact h2
  · have := Nat.div_le_div_right (c := 2 ^ (6 * (e.q / 64))) h2
    omega
/-- Behind a slot whose span begins later all do. -/
theorem tk_mono (h : Std n e) (k : Std n f) (ht : tkN now e = false) (hq : e.q ≤ f.q) : tkN now f = false := by
  have h1 := tk_false ht
  have hs := h.span
  have ks := k.span
  have hk : ¬ (shN (f.q / 64) f.a ≤ shN (f.q / 64) now) := by
    unfold shN
    rcases Nat.lt_or_ge (e.q / 64) (f.q / 64) with hr | hr
    · obtain ⟨k1, k2, k3⟩ := k.ring
      obtain ⟨e1, e2, e3⟩ := h.ring
      have k4 := (ring_facts k.hi k.lo).2 (by omega)
      rw [← k1] at k4
      have e4 := (ring_facts h.hi h.lo).1
      rw [← e1] at e4
      have hlt := tk_lt ht
      obtain ⟨t, ht9⟩ : ∃ t, f.q / 64 = e.q / 64 + 1 + t := ⟨f.q / 64 - (e.q / 64 + 1), by omega⟩
      have hp : (2 : Nat) ^ (6 * (f.q / 64)) = 2 ^ (6 * (e.q / 64)) * 64 * 2 ^ (6 * t) := by
        rw [ht9, show 6 * (e.q / 64 + 1 + t) = 6 * (e.q / 64) + 6 + 6 * t by omega, Nat.pow_add, Nat.pow_add]
      have e5 : e.a / 2 ^ (6 * (f.q / 64)) = n / 2 ^ (6 * (f.q / 64)) := by
        rw [hp, ← Nat.div_div_eq_div_mul, ← Nat.div_div_eq_div_mul, e4, Nat.div_div_eq_div_mul, Nat.div_div_eq_div_mul, ← Nat.mul_assoc]
      have h5 := Nat.div_le_div_right (c := 2 ^ (6 * (f.q / 64))) (Nat.le_of_lt hlt)
      omega
    · have hr2 : e.q / 64 = f.q / 64 := by omega
      rw [← hr2] at ks ⊢
      omega
  unfold tkN
  exact decide_eq_false hk
/-- Who isn't reached stands right for the new time, too. -/
theorem Std.stay (h : Std n e) (ht : tkN now e = false) (hn : n ≤ now) : Std now e := by
  have h1 := tk_false ht
  have hlt := tk_lt ht
  obtain ⟨r1, r2, r3⟩ := h.ring
  have f1 := (ring_facts h.hi h.lo).1
  rw [← r1] at f1 r2
  have g1 := Nat.div_le_div_right (c := 2 ^ (6 * (e.q / 64))) hn
  have g2 := Nat.div_le_div_right (c := 64) g1
  have g3 := Nat.div_le_div_right (c := 64) (Nat.le_of_lt h1)
  have hr : ringN e.a now = e.q / 64 := ring_eq h.hi (Nat.le_of_lt hlt) (by omega) (fun _ => h1) (by omega)
  refine ⟨?_, Nat.le_of_lt hlt, h.hi⟩
  unfold slotN
  rw [hr, ← r2]
  omega
end
/-! ### Lists that are in order by time -/
/-- Who goes off, by time. -/
structure Ord (O : List (Nat × Int)) (F : Nat → List Int) : Prop where
  up : O.Pairwise (fun x y => x.1 ≤ y.1)
  fl : ∀ k, (O.filter (fun x => x.1 == k)).map (·.2) = F k
theorem ord_unique {O P : List (Nat × Int)} {F : Nat → List Int} : Ord O F → Ord P F → O = P := by
  induction O generalizing P F with
  | nil =>
    intro h k
    cases P with
    | nil => rfl
    | cons p P =>
      have h1 := h.fl p.1
      have h2 := k.fl p.1
      simp at h2
      simp at h1
      rw [h1] at h2
      cases h2
  | cons o O ih =>
    intro h k
    cases P with
    | nil =>
      have h1 := h.fl o.1
      have h2 := k.fl o.1
      simp at h1
      simp at h2
      rw [h2] at h1
      cases h1
    | cons p P =>
      have hup := List.pairwise_cons.1 h.up
      have kup := List.pairwise_cons.1 k.up
      have e1 : p.1 ≤ o.1 := by
        have h1 := h.fl o.1
        have k1 := k.fl o.1
        rw [List.filter_cons, if_pos (by simp)] at h1
        rw [← h1] at k1
        have : (List.filter (fun x => x.1 == o.1) (p :: P)) ≠ [] := fun e => by rw [e] at k1; simp at k1
        obtain ⟨x, hx⟩ := List.exists_mem_of_ne_nil _ this
        have hx2 := List.mem_filter.1 hx
        have hx3 : x.1 = o.1 := by simpa using hx2.2
        rcases List.mem_cons.1 hx2.1 with e | e
        · rw [← hx3, e]; exact Nat.le_refl _
        · rw [← hx3]; exact kup.1 x e
      have e2 : o.1 ≤ p.1 := by
        have h1 := h.fl p.1
        have k1 := k.fl p.1
        rw [List.filter_cons, if_pos (by simp)] at k1
        rw [← k1] at h1
        have : (List.filter (fun x => x.1 == p.1) (o :: O)) ≠ [] := fun e => by rw [e] at h1; simp at h1
        obtain ⟨x, hx⟩ := List.exists_mem_of_ne_nil _ this
        have hx2 := List.mem_filter.1 hx
        have hx3 : x.1 = p.1 := by simpa using hx2.2
        rcases List.mem_cons.1 hx2.1 with e | e
        · rw [← hx3, e]; exact Nat.le_refl _
        · rw [← hx3]; exact hup.1 x e
      have e3 : o.1 = p.1 := Nat.le_antisymm e2 e1
      have h1 := h.fl o.1
      have k1 := k.fl o.1
      rw [List.filter_cons, if_pos (by simp), List.map_cons] at h1
      rw [List.filter_cons, if_pos (by simp [e3]), List.map_cons] at k1
      rw [← h1] at k1
      injection k1 with k2 k3
      have e4 : o = p := Prod.ext e3 k2.symm
      subst e4
      have hF : ∀ (L : List (Nat × Int)), (∀ k, ((o :: L).filter (fun x => x.1 == k)).map (·.2) = F k) → ∀ k, (L.filter (fun x => x.1 == k)).map (·.2) = if k = o.1 then (F k).tail else F k := fun L hL k => by
        have := hL k
        by_cases hk : k = o.1
        · subst hk
          rw [List.filter_cons, if_pos (by simp), List.map_cons] at this
          rw [if_pos rfl, ← this]; rfl
        · rw [List.filter_cons, if_neg (by simpa using fun e => hk e.symm)] at this
          rw [if_neg hk]; exact this
      rw [ih ⟨hup.2, hF O h.fl⟩ ⟨kup.2, hF P k.fl⟩]
end Go.Proofs.Ytjgcpaepaocigaa

/-
  reached of layer 17: what is taken out of the slots, whatever stands in them. Conditions are each theorem's own.
-/
namespace Go.Proofs.Ytjgcpaepaocigaa
open Go.RowKit Go.Shelf Go.Maps Go.WideMaps
/-- All but those that were taken. -/
def rem (E K : List Te) : List Te := E.filter (fun e => !K.any (fun x => x.b == e.b))
/-- What was taken: the slots below q. -/
def Pg (E : List Te) (now : Nat) (K : List Te) (q : Nat) : Prop := (∀ p, sl K p = if p < q then sl E p else []) ∧ ∀ e ∈ E, e.q < q → tkN now e = true
structure Sg (w0 : World) (d M : Nat) (most : Int) (now0 : Nat) (E K : List Te) (v : Value) (w : World) : Prop where
  g : Wg w d M most (now0 : Int) (rem E K)
  k : ∀ e ∈ K, e ∈ E ∧ w.heap[e.b]? = some (.cells (tmG e.id (e.a : Int) none none none) 68 (0, 0))
  own : w.ownsRow w0.heap.size 57 1 v K.length (K.flatMap clP_)
  kp : Kept (fun k => k = d ∨ ∃ e ∈ E, k = e.b) w0 w
  nl : K.length + (rem E K).length = E.length
  kn : (K.map (·.b)).Nodup
section
variable {w0 w w4 w5 : World} {d M : Nat} {most : Int} {now0 now q : Nat} {E K S S1 S2 : List Te} {v v4 : Value} {e f : Te}
theorem dr_len (h : (E.map (·.b)).Nodup) (he : e ∈ E) : (dr E e.b).length + 1 = E.length := by
  obtain ⟨A, C, rfl⟩ := List.append_of_mem he
  have hn := h
  rw [List.map_append, List.map_cons] at hn
  have h1 := List.nodup_append.1 hn
  have e1 : dr (A ++ e :: C) e.b = A ++ C := by
    unfold dr
    rw [List.filter_append, List.filter_cons, if_neg (by simp)]
    congr 1
    · rw [List.filter_eq_self]
      intro x hx
      have := h1.2.2 x.b (List.mem_map.2 ⟨x, hx, rfl⟩) e.b (by simp)
      simpa using this
    · rw [List.filter_eq_self]
      intro x hx
      have := (List.nodup_cons.1 h1.2.1).1
      have h2 : x.b ≠ e.b := fun e2 => this (List.mem_map.2 ⟨x, hx, e2⟩)
      simpa using h2
  rw [e1]
  simp
  omega
theorem rem_nil (E : List Te) : rem E [] = E := by unfold rem; simp
theorem rem_mem : f ∈ rem E K ↔ f ∈ E ∧ ∀ x ∈ K, x.b ≠ f.b := by unfold rem; simp
theorem rem_snoc (E K : List Te) (e : Te) : rem E (K ++ [e]) = dr (rem E K) e.b := by
  unfold rem dr
  rw [List.filter_filter]
  congr 1
  funext x
  rw [List.any_append, Bool.not_or, Bool.and_comm]
  congr 1
  by_cases h : e.b = x.b
  · simp [h]
  · rw [bne, beq_eq_false_iff_ne.2 (Ne.symm h)]
    simp [h]
theorem rem_sl (hnd : (E.map (·.b)).Nodup) (hE : ∀ e ∈ K, e ∈ E) (hs : sl E q = S1 ++ S2) (hk : sl K q = S1) : sl (rem E K) q = S2 := by
  have h1 : sl (rem E K) q = (sl E q).filter (fun e => !K.any (fun x => x.b == e.b)) := by
    unfold sl rem
    rw [List.filter_filter, List.filter_filter]
    congr 1
    funext x
    exact Bool.and_comm _ _
  rw [h1, hs, List.filter_append]
  have hn := nd_sl hnd q
  rw [hs, List.map_append, List.nodup_append] at hn
  have e1 : S1.filter (fun e => !K.any (fun x => x.b == e.b)) = [] := by
    rw [List.filter_eq_nil_iff]
    intro x hx
    have : x ∈ K := (sl_mem.1 (by rw [hk]; exact hx : x ∈ sl K q)).1
    simp
    exact ⟨x, this, rfl⟩
  have e2 : S2.filter (fun e => !K.any (fun x => x.b == e.b)) = S2 := by
    rw [List.filter_eq_self]
    intro x hx
    simp
    intro y hy e3
    have hxE := sl_mem.1 (by rw [hs]; simp [hx] : x ∈ sl E q)
    have e4 := nd_inj hnd (hE y hy) hxE.1 e3
    subst e4
    have h5 : y ∈ S1 := by rw [← hk]; exact sl_mem.2 ⟨hy, hxE.2⟩
    exact hn.2.2 y.b (List.mem_map.2 ⟨y, h5, rfl⟩) y.b (List.mem_map.2 ⟨y, hx, rfl⟩) rfl
  rw [e1, e2, List.nil_append]
theorem Sg.sub (h : Sg w0 d M most now0 E K v w) : ∀ e ∈ K, e ∈ E := fun e he => (h.k e he).1
theorem Sg.len (h : Sg w0 d M most now0 E K v w) : ∃ A c, v = .slice A K.length c := by
  obtain ⟨A, c, e1, _⟩ := own_rds (cl := clP_) (sz := 1) h.own rfl rfl (fun _ _ => rfl)
  exact ⟨A, c, e1⟩
theorem Sg.drew (h : Sg w0 d M most now0 E K v w) : Sg w0 d M most now0 E K v w.drew := ⟨h.g.drew, h.k, h.own, h.kp.trans (Kept.drew w) (fun _ _ e => e), h.nl, h.kn⟩
theorem Sg.sz (h : Sg w0 d M most now0 E K v w) : w0.heap.size ≤ w.heap.size := h.kp.size
/-- One more is taken out. -/
theorem Sg.took (H : Wg w0 d M most (now0 : Int) E) (h : Sg w0 d M most now0 E K v w) (he : e ∈ rem E K) (hb : Below w0.heap.size w w4) (ho : w4.ownsRow w0.heap.size 57 1 v4 (K.length + 1) (K.flatMap clP_ ++ [.pointer (some ⟨e.b, 0, none⟩)]))
    (hw5 : Wg w5 d M most (now0 : Int) (dr (rem E K) e.b)) (ht5 : w5.heap[e.b]? = some (.cells (tmG e.id (e.a : Int) none none none) 68 (0, 0))) (k5 : Kept (fun k => k = d ∨ ∃ x ∈ rem E K, k = x.b) w4 w5) : Sg w0 d M most now0 E (K ++ [e]) v4 w5 := by
  have hlt : ∀ e' ∈ E, e'.b < w0.heap.size := fun e' he => heap_lt (H.blk he).choose_spec.choose_spec.choose_spec
  have heE := (rem_mem.1 he).1
  have hz4 := hb.size
  have hz5 := k5.size
  refine ⟨by rw [rem_snoc]; exact hw5, fun f hf => ?_, ?_, ?_, ?_, ?_⟩
  · rcases List.mem_append.1 hf with hf | hf
    · obtain ⟨h1, h2⟩ := h.k f hf
      refine ⟨h1, ?_⟩
      have h3 := hlt f h1
      rw [k5.block f.b (by have := h.sz; omega) (fun e2 => ?_), hb.block f.b h3]
      · exact h2
      · rcases e2 with e2 | ⟨x, hx, e2⟩
        · exact H.bne h1 e2
        · exact (rem_mem.1 hx).2 f hf e2
    · rw [List.mem_singleton.1 hf]
      exact ⟨heE, ht5⟩
  · rw [List.length_append, List.flatMap_append]
    refine own_keptT (by simpa [clP_] using ho) k5 (fun g hg cs fr hh => ?_)
    rcases hg with rfl | ⟨x, hx, rfl⟩
    · obtain ⟨cs2, h2⟩ := h.g.is
      have h1 := hb.block g H.lt
      rw [h1, h2] at hh
      injection hh with hh
      injection hh with _ e2 _
      exact absurd e2 (nat_ne (by kernel_rfl))
    · obtain ⟨l, p, n, h2⟩ := h.g.blk hx
      have h1 := hb.block x.b (hlt x (rem_mem.1 hx).1)
      rw [h1, h2] at hh
      injection hh with hh
      injection hh with _ e2 _
      exact absurd e2 (nat_ne (by kernel_rfl))
  · refine ⟨k5.os.trans (hb.os.trans h.kp.os), k5.tape.trans (hb.tape.trans h.kp.tape), k5.output.trans (hb.output.trans h.kp.output), by have := h.sz; omega, fun k hk hn => ?_⟩
    have h1 := h.sz
    rw [k5.block k (by omega) (fun e2 => ?_), hb.block k hk, h.kp.block k hk hn]
    rcases e2 with e2 | ⟨x, hx, e2⟩
    · exact hn (.inl e2)
    · exact hn (.inr ⟨x, (rem_mem.1 hx).1, e2⟩)
  · rw [rem_snoc, List.length_append]
    have h1 := h.nl
    have h2 := dr_len h.g.nd he
    simp only [List.length_singleton]
    omega
  · rw [List.map_append, List.nodup_append]
    refine ⟨h.kn, by simp, fun x hx y hy => ?_⟩
    obtain ⟨z, hz, rfl⟩ := List.mem_map.1 hx
    simp at hy
    subst hy
    exact (rem_mem.1 he).2 z hz
end
section
variable {w : World} {d M : Nat} {most : Int} {now0 now : Nat} {E : List Te}
set_option maxRecDepth 100000 in
set_option maxHeartbeats 4000000 in
theorem wreachedG (h : Wg w d M most (now0 : Int) E) (hst : ∀ e ∈ E, Std now0 e) (hEl : E.length ≤ 1000000) :
    Calls Try.prog 31 #[.pointer (some ⟨d, 0, none⟩), .int .i64 (now : Int)] w fun e w' => ∃ A c K q, e = .returned (.slice A K.length c) ∧ Sg w d M most now0 E K (.slice A K.length c) w' ∧ Pg E now K q ∧ ∀ e ∈ E, q ≤ e.q → tkN now e = false := by
  have h0 : Sg w d M most now0 E [] (.slice none 0 0) w := ⟨by rw [rem_nil]; exact h, fun e he => (by cases he), World.ownsRow_nil _ _ _ _, Kept.refl _, by rw [rem_nil]; simp, List.nodup_nil⟩
  have hp0 : Pg E now [] 0 := ⟨fun p => by rw [if_neg (by omega)]; rfl, fun e _ he => absurd he (by omega)⟩
  have H := Lib.hid h
  have HS := Lib.hid hst
  have HEL := Lib.hid hEl
  clear h hst hEl
  go_enter Try.func31, Try.ntmps31
  go_wp2
  go_step3
  go_wp2
  go_step3
  go_wp2
  go_loopw [5, 9] (fun v z wr => ∃ (r : Nat) (K : List Te) (vv : Value), vv = v ∧ r ≤ 7 ∧ z = .int .i64 (r : Int) ∧ Hid (Sg w d M most now0 E K vv wr) ∧ Hid (Pg E now K (64 * r)))
    (fun _ z _ => 7 - (intOf z).toNat)
  case atStart => exact ⟨0, [], _, rfl, by omega, rfl, Lib.hid h0, Lib.hid hp0⟩
  case round =>
    obtain ⟨r, K, v5, rfl, hr, rfl, HC, HP⟩ := hrel
    clear h0 hp0
    by_cases hr7 : r < 7
    · have dr : decide ((r : Int) < 7) = true := decide_eq_true (by omega)
      go_wp2
      go_loopw [5, 12] (fun v z wr => ∃ (i : Nat) (K : List Te) (vv : Value), vv = v ∧ i ≤ 64 ∧ z = .int .i64 (i : Int) ∧ Hid (Sg w d M most now0 E K vv wr) ∧ Hid (Pg E now K (64 * r + i)))
        (fun _ z _ => 64 - (intOf z).toNat)
      case atStart => exact ⟨0, K, _, rfl, by omega, rfl, HC, HP⟩
      case round =>
        clear HC HP
        obtain ⟨i, K, v5, rfl, hi, rfl, HC, HP⟩ := hrel
        by_cases hi64 : i < 64
        · have hkq : sl K (64 * r + i) = [] := by rw [HP.out.1, if_neg (by omega)]
          by_cases hin : ∃ e S, sl E (64 * r + i) = e :: S
          · obtain ⟨e, S, hes⟩ := hin
            have heE := (sl_mem.1 (by rw [hes]; simp : e ∈ sl E (64 * r + i))).1
            have heq := (sl_mem.1 (by rw [hes]; simp : e ∈ sl E (64 * r + i))).2
            have hsr := rem_sl (S1 := []) H.out.nd HC.out.sub hes hkq
            have kl : wr.cell? ⟨d, r * 128 + i * 2, none⟩ = some (.pointer (some ⟨e.b, 0, none⟩)) := by
              have := HC.out.g.c0 (q := 64 * r + i) (by omega)
              rw [hsr, show 2 * (64 * r + i) = r * 128 + i * 2 from by omega] at this
              exact this
            have heR : e ∈ rem E K := (sl_mem.1 (by rw [hsr]; simp : e ∈ sl (rem E K) (64 * r + i))).1
            obtain ⟨l9, p9, n9, hte⟩ := HC.out.g.blk heR
            have ka : wr.cell? ⟨e.b, 1, none⟩ = some (.int .i64 (e.a : Int)) := cells_at hte rfl
            have KL : Hid (wr.drew.cell? ⟨d, r * 128 + i * 2, none⟩ = some (.pointer (some ⟨e.b, 0, none⟩))) := Lib.hid kl
            have KA : Hid (wr.drew.cell? ⟨e.b, 1, none⟩ = some (.int .i64 (e.a : Int))) := Lib.hid ka
            have hea := (HS.out e heE).hi
            have h7 : r = 0 ∨ r = 1 ∨ r = 2 ∨ r = 3 ∨ r = 4 ∨ r = 5 ∨ r = 6 := by omega
            have hqr : e.q / 64 = r := by omega
            have HES := Lib.hid hes
            have HKQ := Lib.hid hkq
            clear hte hsr hes hkq
            by_cases hg : shN r now < shN r e.a
            · have dG : decide (((shN r now : Nat) : Int) < ((shN r e.a : Nat) : Int)) = true := decide_eq_true (by omega)
              go_upto_region 10 with fail
              refine wp_region_held_drew (S := fun w' => w' = wr.drew) (by kernel_rfl) rfl (fun hS => ?_)
              refine held_pure (i := 0) (oi := ⟨some 28, _, _, _, _, _⟩) rfl (by kernel_rfl) (by kernel_rfl) (by kernel_rfl) (fun _ _ _ h => h) (by rfl) (v := ?_) (fun w hSw => ?_) hS (fun hS => ?_)
              rotate_left
              · go_simp; try with_reducible rfl
              try go_frame
              refine held_pure (i := 1) (oi := ⟨some 29, _, _, _, _, _⟩) rfl (by kernel_rfl) (by kernel_rfl) (by kernel_rfl) (fun _ _ _ h => h) (by rfl) (v := ?_) (fun w hSw => ?_) hS (fun hS => ?_)
              rotate_left
              · go_simp; try with_reducible rfl
              try go_frame
              refine held_pure (i := 2) (oi := ⟨some 30, _, _, _, _, _⟩) rfl (by kernel_rfl) (by kernel_rfl) (by kernel_rfl) (fun _ _ _ h => h) (by rfl) (v := ?_) (fun w hSw => ?_) hS (fun hS => ?_)
              rotate_left
              · go_simp; try with_reducible rfl
              try go_frame
              refine held_pure (i := 3) (oi := ⟨some 31, _, _, _, _, _⟩) rfl (by kernel_rfl) (by kernel_rfl) (by kernel_rfl) (fun _ _ _ h => h) (by rfl) (fun w hSw => run_load_ptW rfl rfl (by rw [hSw]; exact KL.out)) hS (fun hS => ?_)
              try go_frame
              refine held_pure (i := 4) (oi := ⟨some 32, _, _, _, _, _⟩) rfl (by kernel_rfl) (by kernel_rfl) (by kernel_rfl) (fun _ _ _ h => h) (by rfl) (v := ?_) (fun w hSw => ?_) hS (fun hS => ?_)
              rotate_left
              · go_simp; try with_reducible rfl
              try go_frame
              refine held_pure (i := 5) (oi := ⟨some 33, _, _, _, _, _⟩) rfl (by kernel_rfl) (by kernel_rfl) (by kernel_rfl) (fun _ _ _ h => h) (by rfl) (v := ?_) (fun w hSw => ?_) hS (fun hS => ?_)
              rotate_left
              · go_simp; try with_reducible rfl
              try go_frame
              refine held_pure (i := 6) (oi := ⟨some 34, _, _, _, _, _⟩) rfl (by kernel_rfl) (by kernel_rfl) (by kernel_rfl) (fun _ _ _ h => h) (by rfl) (fun w hSw => run_load_int rfl rfl (by rw [hSw]; exact KA.out)) hS (fun hS => ?_)
              try go_frame
              refine held_pure (i := 7) (oi := ⟨some 35, _, _, _, _, _⟩) rfl (by kernel_rfl) (by kernel_rfl) (by kernel_rfl) (fun _ _ _ h => h) (by rfl) (v := ?_) (fun w hSw => ?_) hS (fun hS => ?_)
              rotate_left
              · go_simp; try with_reducible rfl
              try go_frame
              refine held_pure (i := 8) (oi := ⟨some 36, _, _, _, _, _⟩) rfl (by kernel_rfl) (by kernel_rfl) (by kernel_rfl) (fun _ _ _ h => h) (by rfl) (v := .int .i64 ((r * 6 : Nat) : Int)) (fun w hSw => by rcases h7 with rfl | rfl | rfl | rfl | rfl | rfl | rfl <;> go_simp <;> first | done | decide) hS (fun hS => ?_)
              try go_frame
              refine held_pure (i := 9) (oi := ⟨some 37, _, _, _, _, _⟩) rfl (by kernel_rfl) (by kernel_rfl) (by kernel_rfl) (fun _ _ _ h => h) (by rfl) (v := .int .i64 ((shN r e.a : Nat) : Int)) (fun w hSw => by rcases h7 with rfl | rfl | rfl | rfl | rfl | rfl | rfl <;> go_simp <;> simp [shN]) hS (fun hS => ?_)
              try go_frame
              refine held_pure (i := 10) (oi := ⟨some 38, _, _, _, _, _⟩) rfl (by kernel_rfl) (by kernel_rfl) (by kernel_rfl) (fun _ _ _ h => h) (by rfl) (v := ?_) (fun w hSw => ?_) hS (fun hS => ?_)
              rotate_left
              · go_simp; try with_reducible rfl
              try go_frame
              refine held_pure (i := 11) (oi := ⟨some 39, _, _, _, _, _⟩) rfl (by kernel_rfl) (by kernel_rfl) (by kernel_rfl) (fun _ _ _ h => h) (by rfl) (v := ?_) (fun w hSw => ?_) hS (fun hS => ?_)
              rotate_left
              · go_simp; try with_reducible rfl
              try go_frame
              refine held_pure (i := 12) (oi := ⟨some 40, _, _, _, _, _⟩) rfl (by kernel_rfl) (by kernel_rfl) (by kernel_rfl) (fun _ _ _ h => h) (by rfl) (v := .int .i64 ((r * 6 : Nat) : Int)) (fun w hSw => by rcases h7 with rfl | rfl | rfl | rfl | rfl | rfl | rfl <;> go_simp <;> first | done | decide) hS (fun hS => ?_)
              try go_frame
              refine held_pure (i := 13) (oi := ⟨some 41, _, _, _, _, _⟩) rfl (by kernel_rfl) (by kernel_rfl) (by kernel_rfl) (fun _ _ _ h => h) (by rfl) (v := .int .i64 ((shN r now : Nat) : Int)) (fun w hSw => by rcases h7 with rfl | rfl | rfl | rfl | rfl | rfl | rfl <;> go_simp <;> simp [shN]) hS (fun hS => ?_)
              try go_frame
              refine held_pure (i := 14) (oi := ⟨some 42, _, _, _, _, _⟩) rfl (by kernel_rfl) (by kernel_rfl) (by kernel_rfl) (fun _ _ _ h => h) (by rfl) (v := .bool true) (fun w hSw => by go_simp; try exact dG) hS (fun hS => ?_)
              try go_frame
              refine held_pure (i := 15) (oi := ⟨some 27, _, _, _, _, _⟩) rfl (by kernel_rfl) (by kernel_rfl) (by kernel_rfl) (fun _ _ _ h => h) (by rfl) (v := ?_) (fun w hSw => ?_) hS (fun hS => ?_)
              rotate_left
              · go_simp; try with_reducible rfl
              try go_frame
              refine wpAnyH_done (by kernel_rfl) ?_ _
              have HNT : Hid (∀ f ∈ E, 64 * r + i ≤ f.q → tkN now f = false) := Lib.hid (fun f hf hq => tk_mono (HS.out e heE) (HS.out f hf) (by unfold tkN; rw [hqr]; exact decide_eq_false (by omega)) (by omega))
              obtain ⟨A, c, ev⟩ := HC.out.len
              subst ev
              clear kl ka
              go_wp2
              try rw [Exit.noGoto_ret]
              refine bodyPost_ret (results_tmp rfl _ _ _) rfl ?_
              exact ⟨A, c, K, 64 * r + i, rfl, HC.out.drew, HP.out, HNT.out⟩
            · have dG : decide (((shN r now : Nat) : Int) < ((shN r e.a : Nat) : Int)) = false := decide_eq_false (by omega)
              have HKE : Hid (tkN now e = true) := Lib.hid (by unfold tkN; rw [hqr]; exact decide_eq_true (by omega))
              go_upto_region 10 with fail
              refine wp_region_held_drew (S := fun w' => w' = wr.drew) (by kernel_rfl) rfl (fun hS => ?_)
              refine held_pure (i := 0) (oi := ⟨some 28, _, _, _, _, _⟩) rfl (by kernel_rfl) (by kernel_rfl) (by kernel_rfl) (fun _ _ _ h => h) (by rfl) (v := ?_) (fun w hSw => ?_) hS (fun hS => ?_)
              rotate_left
              · go_simp; try with_reducible rfl
              try go_frame
              refine held_pure (i := 1) (oi := ⟨some 29, _, _, _, _, _⟩) rfl (by kernel_rfl) (by kernel_rfl) (by kernel_rfl) (fun _ _ _ h => h) (by rfl) (v := ?_) (fun w hSw => ?_) hS (fun hS => ?_)
              rotate_left
              · go_simp; try with_reducible rfl
              try go_frame
              refine held_pure (i := 2) (oi := ⟨some 30, _, _, _, _, _⟩) rfl (by kernel_rfl) (by kernel_rfl) (by kernel_rfl) (fun _ _ _ h => h) (by rfl) (v := ?_) (fun w hSw => ?_) hS (fun hS => ?_)
              rotate_left
              · go_simp; try with_reducible rfl
              try go_frame
              refine held_pure (i := 3) (oi := ⟨some 31, _, _, _, _, _⟩) rfl (by kernel_rfl) (by kernel_rfl) (by kernel_rfl) (fun _ _ _ h => h) (by rfl) (fun w hSw => run_load_ptW rfl rfl (by rw [hSw]; exact KL.out)) hS (fun hS => ?_)
              try go_frame
              refine held_pure (i := 4) (oi := ⟨some 32, _, _, _, _, _⟩) rfl (by kernel_rfl) (by kernel_rfl) (by kernel_rfl) (fun _ _ _ h => h) (by rfl) (v := ?_) (fun w hSw => ?_) hS (fun hS => ?_)
              rotate_left
              · go_simp; try with_reducible rfl
              try go_frame
              refine held_pure (i := 5) (oi := ⟨some 33, _, _, _, _, _⟩) rfl (by kernel_rfl) (by kernel_rfl) (by kernel_rfl) (fun _ _ _ h => h) (by rfl) (v := ?_) (fun w hSw => ?_) hS (fun hS => ?_)
              rotate_left
              · go_simp; try with_reducible rfl
              try go_frame
              refine held_pure (i := 6) (oi := ⟨some 34, _, _, _, _, _⟩) rfl (by kernel_rfl) (by kernel_rfl) (by kernel_rfl) (fun _ _ _ h => h) (by rfl) (fun w hSw => run_load_int rfl rfl (by rw [hSw]; exact KA.out)) hS (fun hS => ?_)
              try go_frame
              refine held_pure (i := 7) (oi := ⟨some 35, _, _, _, _, _⟩) rfl (by kernel_rfl) (by kernel_rfl) (by kernel_rfl) (fun _ _ _ h => h) (by rfl) (v := ?_) (fun w hSw => ?_) hS (fun hS => ?_)
              rotate_left
              · go_simp; try with_reducible rfl
              try go_frame
              refine held_pure (i := 8) (oi := ⟨some 36, _, _, _, _, _⟩) rfl (by kernel_rfl) (by kernel_rfl) (by kernel_rfl) (fun _ _ _ h => h) (by rfl) (v := .int .i64 ((r * 6 : Nat) : Int)) (fun w hSw => by rcases h7 with rfl | rfl | rfl | rfl | rfl | rfl | rfl <;> go_simp <;> first | done | decide) hS (fun hS => ?_)
              try go_frame
              refine held_pure (i := 9) (oi := ⟨some 37, _, _, _, _, _⟩) rfl (by kernel_rfl) (by kernel_rfl) (by kernel_rfl) (fun _ _ _ h => h) (by rfl) (v := .int .i64 ((shN r e.a : Nat) : Int)) (fun w hSw => by rcases h7 with rfl | rfl | rfl | rfl | rfl | rfl | rfl <;> go_simp <;> simp [shN]) hS (fun hS => ?_)
              try go_frame
              refine held_pure (i := 10) (oi := ⟨some 38, _, _, _, _, _⟩) rfl (by kernel_rfl) (by kernel_rfl) (by kernel_rfl) (fun _ _ _ h => h) (by rfl) (v := ?_) (fun w hSw => ?_) hS (fun hS => ?_)
              rotate_left
              · go_simp; try with_reducible rfl
              try go_frame
              refine held_pure (i := 11) (oi := ⟨some 39, _, _, _, _, _⟩) rfl (by kernel_rfl) (by kernel_rfl) (by kernel_rfl) (fun _ _ _ h => h) (by rfl) (v := ?_) (fun w hSw => ?_) hS (fun hS => ?_)
              rotate_left
              · go_simp; try with_reducible rfl
              try go_frame
              refine held_pure (i := 12) (oi := ⟨some 40, _, _, _, _, _⟩) rfl (by kernel_rfl) (by kernel_rfl) (by kernel_rfl) (fun _ _ _ h => h) (by rfl) (v := .int .i64 ((r * 6 : Nat) : Int)) (fun w hSw => by rcases h7 with rfl | rfl | rfl | rfl | rfl | rfl | rfl <;> go_simp <;> first | done | decide) hS (fun hS => ?_)
              try go_frame
              refine held_pure (i := 13) (oi := ⟨some 41, _, _, _, _, _⟩) rfl (by kernel_rfl) (by kernel_rfl) (by kernel_rfl) (fun _ _ _ h => h) (by rfl) (v := .int .i64 ((shN r now : Nat) : Int)) (fun w hSw => by rcases h7 with rfl | rfl | rfl | rfl | rfl | rfl | rfl <;> go_simp <;> simp [shN]) hS (fun hS => ?_)
              try go_frame
              refine held_pure (i := 14) (oi := ⟨some 42, _, _, _, _, _⟩) rfl (by kernel_rfl) (by kernel_rfl) (by kernel_rfl) (fun _ _ _ h => h) (by rfl) (v := .bool false) (fun w hSw => by go_simp; try exact dG) hS (fun hS => ?_)
              try go_frame
              refine held_pure (i := 15) (oi := ⟨some 27, _, _, _, _, _⟩) rfl (by kernel_rfl) (by kernel_rfl) (by kernel_rfl) (fun _ _ _ h => h) (by rfl) (v := ?_) (fun w hSw => ?_) hS (fun hS => ?_)
              rotate_left
              · go_simp; try with_reducible rfl
              try go_frame
              refine wpAnyH_done (by kernel_rfl) ?_ _
              have HCD := Lib.hid HC.out.drew
              clear kl ka KL KA dG hS
              go_wp2
              go_loopw [5] (fun v wq => ∃ (S1 S2 : List Te) (vv : Value), vv = v ∧ Hid (e :: S = S1 ++ S2) ∧ Hid (Sg w d M most now0 E (K ++ S1) vv wq)) (fun v _ => E.length + 1 - slLen v)
              case atStart => exact ⟨[], e :: S, _, rfl, Lib.hid rfl, by rw [List.append_nil]; exact HCD⟩
              case round =>
                clear HCD HC
                obtain ⟨S1, S2, v6, rfl, HSS, HC⟩ := hrel
                have hsl1 : sl (K ++ S1) (64 * r + i) = S1 := by
                  unfold sl
                  rw [List.filter_append]
                  have h1 := HKQ.out
                  unfold sl at h1
                  rw [h1, List.nil_append, List.filter_eq_self]
                  intro x hx
                  have : x ∈ sl E (64 * r + i) := by rw [HES.out, HSS.out]; simp [hx]
                  have := (sl_mem.1 this).2
                  simpa using this
                have hsr := rem_sl H.out.nd HC.out.sub (by rw [HES.out]; exact HSS.out) hsl1
                have hcl := HC.out.g.c0 (q := 64 * r + i) (by omega)
                rw [hsr, show 2 * (64 * r + i) = r * 128 + i * 2 from by omega] at hcl
                cases S2 with
                | cons f S3 =>
                  have kl : wr.cell? ⟨d, r * 128 + i * 2, none⟩ = some (.pointer (some ⟨f.b, 0, none⟩)) := hcl
                  have hfR : f ∈ rem E (K ++ S1) := (sl_mem.1 (by rw [hsr]; simp : f ∈ sl (rem E (K ++ S1)) (64 * r + i))).1
                  obtain ⟨A6, c6, ev6⟩ := HC.out.len
                  obtain ⟨L0, hL0⟩ : ∃ L0, L0 = (K ++ S1).length := ⟨_, rfl⟩
                  have hL9 : L0 ≤ E.length := by rw [hL0]; have := HC.out.nl; omega
                  have hEL := HEL.out
                  have HL0 := Lib.hid hL0
                  have HFR := Lib.hid hfR
                  have HEV := Lib.hid ev6
                  obtain ⟨V2, hV2⟩ : ∃ V2, V2 = wr.alloc (.cells #[.pointer (some ⟨f.b, 0, none⟩)] 57) := ⟨_, rfl⟩
                  have HV2 := Lib.hid hV2
                  have b2 : Below w.heap.size wr V2 := by rw [hV2]; exact (Below.refl _ wr).alloc HC.out.sz _
                  have b2' : Below wr.heap.size wr V2 := by rw [hV2]; exact (Below.refl _ wr).alloc (Nat.le_refl _) _
                  have hcy : V2.cell? ⟨wr.heap.size, 0, none⟩ = some (.pointer (some ⟨f.b, 0, none⟩)) := by rw [hV2]; exact cells_at (i := 0) (World.alloc_heap_new wr _) rfl
                  have hov : V2.ownsRow w.heap.size 57 1 v6 (K ++ S1).length ((K ++ S1).flatMap clP_) := own_below HC.out.own b2'
                  rw [← HL0.out] at hov
                  have hz2 : w.heap.size ≤ V2.heap.size := Nat.le_trans HC.out.sz b2.size
                  have hL0' : L0 ≤ 1000000 := by omega
                  clear hV2 b2' hL0 hfR ev6 hcl hsr hsl1 hEL
                  go_upto_region 13 with (first
                    | (at_builtin; rw [← HV2.out]; refine append_ptW rfl _ _ rfl w.heap.size v6 L0 ((K ++ S1).flatMap clP_) rfl hov wr.heap.size (some ⟨f.b, 0, none⟩) rfl hcy hL0' hz2 ?_; intro v4 w4 hown4 hgrow; have b4 := b2.grown hgrow hz2 (fun k hk => own_block_ge hov k hk); have HOW := Lib.hid hown4; clear hown4 hgrow))
                  have hT4 : Wg w4 d M most (now0 : Int) (rem E (K ++ S1)) := HC.out.g.of_blocks (b4.block d H.out.lt) (fun x hx => b4.block x.b (heap_lt (H.out.blk (rem_mem.1 hx).1).choose_spec.choose_spec.choose_spec))
                  have kl4 : w4.cell? ⟨d, r * 128 + i * 2, none⟩ = some (.pointer (some ⟨f.b, 0, none⟩)) := (World.cell?_of_block (a := ⟨d, r * 128 + i * 2, none⟩) (b4.block d H.out.lt)).trans kl
                  have HLV := Lib.hid (wleaveG hT4 HFR.out)
                  have HB4 := Lib.hid b4
                  clear hT4 b4 hov hcy b2 kl
                  go_wp2_with (go_at_call 28; refine HLV.out.mono ?_; rintro e2 w5 ⟨rfl, hw5, ht5, hk5⟩; have HW5 := Lib.hid hw5; have HT5 := Lib.hid ht5; have HK5 := Lib.hid hk5; clear hw5 ht5 hk5)
                  have hnew := Sg.took H.out HC.out HFR.out HB4.out (by rw [← HL0.out]; exact HOW.out) HW5.out HT5.out HK5.out
                  obtain ⟨A7, c7, ev7⟩ := hnew.len
                  have HNEW := Lib.hid hnew
                  have HSN : Hid (e :: S = (S1 ++ [f]) ++ S3) := Lib.hid (by rw [HSS.out]; simp)
                  clear hnew
                  go_roundw
                  case rel => exact ⟨S1 ++ [f], S3, v4, rfl, HSN, by rw [← List.append_assoc]; exact HNEW⟩
                  case measure =>
                    rw [ev7, HEV.out]
                    show E.length + 1 - (K ++ S1 ++ [f]).length < E.length + 1 - (K ++ S1).length
                    have := HL0.out
                    have e9 : (K ++ S1 ++ [f]).length = (K ++ S1).length + 1 := by simp; omega
                    rw [e9]
                    omega
                | nil =>
                  have kl : wr.cell? ⟨d, r * 128 + i * 2, none⟩ = some (.pointer none) := hcl
                  have hSS : e :: S = S1 := by have := HSS.out; rwa [List.append_nil] at this
                  have HPN : Hid (Pg E now (K ++ S1) (64 * r + (i + 1))) := Lib.hid ⟨fun p => by
                    by_cases h2 : p = 64 * r + i
                    · rw [h2, if_pos (by omega), hsl1, HES.out, hSS]
                    · have h3 : sl (K ++ S1) p = sl K p := by
                        unfold sl
                        rw [List.filter_append]
                        have : S1.filter (fun x => x.q == p) = [] := by
                          rw [List.filter_eq_nil_iff]
                          intro x hx
                          have : x ∈ sl E (64 * r + i) := by rw [HES.out, hSS]; exact hx
                          have h4 := (sl_mem.1 this).2
                          simp
                          omega
                        rw [this, List.append_nil]
                      rw [h3, HP.out.1]
                      by_cases h1 : p < 64 * r + i
                      · rw [if_pos h1, if_pos (by omega)]
                      · rw [if_neg h1, if_neg (by omega)], fun f hf hq => by
                    by_cases h2 : f.q = 64 * r + i
                    · rw [tk_same (HS.out f hf) (HS.out e heE) (by omega)]
                      exact HKE.out
                    · exact HP.out.2 f hf (by omega)⟩
                  clear hcl hsr hsl1 hSS
                  go_wp2
                  go_roundw
                  case rel => exact ⟨i + 1, K ++ S1, _, rfl, by omega, by simp, HC, HPN⟩
                  case measure => simp [intOf]; omega
          · have hnone : sl E (64 * r + i) = [] := by
              rcases h : sl E (64 * r + i) with _ | ⟨e, S⟩
              · rfl
              · exact absurd ⟨e, S, h⟩ hin
            have hsr := rem_sl (S1 := []) (S2 := []) H.out.nd HC.out.sub hnone hkq
            have kl : wr.cell? ⟨d, r * 128 + i * 2, none⟩ = some (.pointer none) := by
              have := HC.out.g.c0 (q := 64 * r + i) (by omega)
              rw [hsr, show 2 * (64 * r + i) = r * 128 + i * 2 from by omega] at this
              exact this
            have HPN : Hid (Pg E now K (64 * r + (i + 1))) := Lib.hid ⟨fun p => by
              rw [HP.out.1]
              by_cases h1 : p < 64 * r + i
              · rw [if_pos h1, if_pos (by omega)]
              · rw [if_neg h1]
                by_cases h2 : p = 64 * r + i
                · rw [h2, hnone]; simp
                · rw [if_neg (by omega)], fun f hf hq => by
              by_cases h2 : f.q = 64 * r + i
              · have : f ∈ sl E (64 * r + i) := sl_mem.2 ⟨hf, h2⟩
                rw [hnone] at this
                cases this
              · exact HP.out.2 f hf (by omega)⟩
            clear hnone hsr hin hkq
            go_wp2
            go_roundw
            case rel => exact ⟨i + 1, K, _, rfl, by omega, by simp, HC, HPN⟩
            case measure => simp [intOf]; omega
        · obtain rfl : i = 64 := by omega
          go_wp2
          go_roundw
          case rel => exact ⟨r + 1, K, _, rfl, by omega, by simp, HC, Lib.hid (by have := HP.out; rwa [show 64 * (r + 1) = 64 * r + 64 by omega])⟩
          case measure => simp [intOf]; omega
    · obtain rfl : r = 7 := by omega
      obtain ⟨A, c, ev⟩ := HC.out.len
      subst ev
      go_wp2
      try rw [Exit.noGoto_ret]
      refine bodyPost_ret (results_tmp rfl _ _ _) rfl ?_
      exact ⟨A, c, K, 448, rfl, HC.out, HP.out, fun f hf hq => absurd (H.out.qs f hf) (by omega)⟩
end
end Go.Proofs.Ytjgcpaepaocigaa

/-
  A wheel whole (layer 17), with any timers; New, and Arm of an id that is not armed. Conditions are each theorem's own.
-/
namespace Go.Proofs.Ytjgcpaepaocigaa
open Go.RowKit Go.Shelf Go.Maps Go.WideMaps
structure Wh (w : World) (d M : Nat) (most : Int) (now : Nat) (E : List Te) (N : Nat) : Prop where
  g : Wg w d M most (now : Int) E
  im : Iw w M N (E.map (·.id))
  st : ∀ e ∈ E, Std now e
  nw : now ≤ 2 ^ 40
/-- The blocks that are a wheel's. -/
def Bk (d M : Nat) (E : List Te) (k : Nat) : Prop := k = d ∨ k = M ∨ ∃ e ∈ E, k = e.b
theorem Iw.perm {w : World} {b n : Nat} {L L' : List Int} (h : Iw w b n L) (hp : L.Perm L') : Iw w b n L' := by
  obtain ⟨D, ho, hc, hz, hnd, hw⟩ := h
  refine ⟨D, ho, fun x hx => ?_, by rw [hz, hp.length_eq], hp.nodup_iff.1 hnd, fun x hx => hw x (hp.mem_iff.2 hx)⟩
  rw [hc x hx, Bool.eq_iff_iff, List.contains_iff_mem, List.contains_iff_mem]
  exact hp.mem_iff
section
variable {w w' : World} {d M N : Nat} {most : Int} {now : Nat} {E : List Te} {e : Te}
theorem Wh.ne (h : Wh w d M most now E N) : d ≠ M := by
  obtain ⟨cs, h2⟩ := h.g.is
  obtain ⟨es, clock, h3⟩ := h.im.is
  exact fun e => by rw [e, h3] at h2; cases h2
theorem Wh.neM (h : Wh w d M most now E N) (he : e ∈ E) : e.b ≠ M := fun e2 => by
  obtain ⟨l, p, n, h1⟩ := h.g.blk he
  obtain ⟨es, clock, h3⟩ := h.im.is
  rw [e2, h3] at h1
  cases h1
theorem Wh.lt (h : Wh w d M most now E N) {k : Nat} (hk : Bk d M E k) : k < w.heap.size := by
  rcases hk with rfl | rfl | ⟨e, he, rfl⟩
  · exact h.g.lt
  · exact h.im.lt
  · exact heap_lt (h.g.blk he).choose_spec.choose_spec.choose_spec
theorem Wh.of_blocks (h : Wh w d M most now E N) (hk : ∀ k, Bk d M E k → w'.heap[k]? = w.heap[k]?) : Wh w' d M most now E N :=
  ⟨h.g.of_blocks (hk d (.inl rfl)) (fun e he => hk e.b (.inr (.inr ⟨e, he, rfl⟩))), h.im.of_block (hk M (.inr (.inl rfl))), h.st, h.nw⟩
theorem Wh.kept {S : Nat → Prop} (h : Wh w d M most now E N) (k : Kept S w w') (hS : ∀ k, Bk d M E k → ¬ S k) : Wh w' d M most now E N := h.of_blocks (fun i hi => k.block i (h.lt hi) (hS i hi))
theorem Wh.below (h : Wh w d M most now E N) (hb : Below w.heap.size w w') : Wh w' d M most now E N := h.of_blocks (fun i hi => hb.block i (h.lt hi))
theorem wmadeG (h : Wg w d M most (now : Int) E) : Calls Try.prog 27 #[.pointer (some ⟨d, 0, none⟩)] w fun e w' => e = .returned (.bool true) ∧ w = w' := by
  have k3 := h.cm
  have qT := nmW w
  clear h
  go_enter Try.func27, Try.ntmps27
  go_wp2
  go_ret
  exact ⟨rfl, rfl⟩
theorem wnewG (most : Int) (w : World) (h0 : 0 ≤ most) (h1 : most ≤ 1048576) : Calls Try.prog 8 #[.int .i64 most] w fun e w' =>
    ∃ d M, e = .returned (.tuple #[.pointer (some ⟨d, 0, none⟩), .int .i64 0]) ∧ Wh w' d M most 0 [] 0 ∧ Below w.heap.size w w' ∧ w.heap.size ≤ d ∧ w.heap.size ≤ M := by
  refine (wnew most w h0 h1).mono ?_
  rintro e w' ⟨d, M, rfl, hw, hi, hb, hd, hM, _⟩
  refine ⟨d, M, rfl, ⟨⟨?_, fun q A e C hs => ?_, List.nodup_nil, fun e he => (by cases he)⟩, hi, fun e he => (by cases he), by decide⟩, hb, hd, hM⟩
  · obtain ⟨cs, h1, h2, h3, h4⟩ := hw.obj
    exact ⟨cs, h1, h2, fun q hq => h3 q hq, h4⟩
  · simp [sl] at hs
set_option maxRecDepth 100000 in
set_option maxHeartbeats 4000000 in
theorem warmG (h : Wh w d M most now E N) (id : Int) (hid : 0 ≤ id ∧ id ≤ 2147483648) (a : Nat) (ha : a ≤ 2 ^ 40) (hnew : ∀ e ∈ E, e.id ≠ id) (hroom : (E.length : Int) < most) (hN : N < maxLen) :
    Calls Try.prog 9 #[.pointer (some ⟨d, 0, none⟩), .int .i64 id, .int .i64 (a : Int)] w fun e w' => e = .returned (.int .i64 0) ∧ ∃ b, w.heap.size ≤ b ∧ Wh w' d M most now (E ++ [⟨slotN (max a now) now, b, id, max a now⟩]) (N + 1) ∧ Kept (Bk d M E) w w' := by
  have hne := h.ne
  have H := Lib.hid h
  have hwb := h.g
  have HWB := Lib.hid hwb
  have him := h.im
  have hidw : wfW id := ⟨by omega, by omega⟩
  have hno : (E.map (·.id)).contains id = false := by
    rw [Bool.eq_false_iff]; intro hc
    rw [List.contains_iff_mem] at hc
    obtain ⟨e, he, e2⟩ := List.mem_map.1 hc
    exact hnew e he e2
  obtain ⟨pa, hlk⟩ := him.look hidw
  rw [hno] at hlk
  have HLK := Lib.hid hlk
  have km := hwb.cm
  have KM : Hid (w.drew.cell? ⟨d, 896, none⟩ = some (.map (some M))) := Lib.hid hwb.cm
  have KO : Hid (w.drew.cell? ⟨d, 897, none⟩ = some (.int .i64 most)) := Lib.hid hwb.cmo
  have hl := (him.of_block (w' := w.drew) rfl).len
  rw [List.length_map] at hl
  have dF : decide (most ≤ (E.length : Int)) = false := decide_eq_false (by omega)
  have HW1 : Hid ((decide ((0 : Int) ≤ id) && decide (id ≤ 2147483648)) = true) := Lib.hid (by simp [hid.1, hid.2])
  have HW2' : Hid ((decide ((0 : Int) ≤ (a : Int)) && decide ((a : Int) ≤ 1099511627776)) = true) := Lib.hid (by simp; omega)
  obtain ⟨m, hm⟩ : ∃ m, m = max a now := ⟨_, rfl⟩
  have hmi : max (a : Int) (now : Int) = (m : Int) := by omega
  have hnow := h.nw
  have HAN : Hid (m ≤ 2 ^ 40 ∧ now ≤ 2 ^ 40) := Lib.hid ⟨by omega, hnow⟩
  have HAN2 : Hid (slotN m now < 448) := Lib.hid (slot_lt HAN.out.1 HAN.out.2).2
  have HMN : Hid (now ≤ m) := Lib.hid (by omega)
  rw [← hm]
  have HND := Lib.hid hno
  obtain ⟨X1, hX1⟩ : ∃ X1, X1 = (w.alloc (.cells (tmG id 0 none none none) 68)).drew := ⟨_, rfl⟩
  have HX1 := Lib.hid (show (w.alloc (.cells #[.int .i64 id, .int .i64 0, .pointer none, .pointer none, .pointer none] 68)).drew = X1 from hX1.symm)
  have b1 : Below w.heap.size w X1 := by rw [hX1]; exact ((Below.refl _ w).alloc (Nat.le_refl _) _).drew
  have hbX1 : X1.heap[w.heap.size]? = some (.cells (tmG id 0 none none none) 68 (0, 0)) := by rw [hX1]; exact World.alloc_heap_new w _
  obtain ⟨X2, hu2, hi2, hg2⟩ := (him.of_block (b1.block M him.lt)).put hN hidw hno (some ⟨w.heap.size, 0, none⟩)
  have k2 := (Kept.of_grown hg2).mono (T := fun k => k = M) (fun _ _ e => by injection e)
  have hMw := him.lt
  have hdw := hwb.lt
  have hbX2 := (k2.block w.heap.size (heap_lt hbX1) (by omega)).trans hbX1
  have hltE : ∀ e ∈ E, e.b < w.heap.size := fun e he => h.lt (.inr (.inr ⟨e, he, rfl⟩))
  have hneE : ∀ e ∈ E, e.b ≠ M := fun e he => h.neM he
  have hwb1 := hwb.of_blocks (b1.block d hdw) (fun e he => b1.block e.b (hltE e he))
  have hwb2 := hwb1.of_blocks (k2.block d (Nat.lt_of_lt_of_le hdw b1.size) hne) (fun e he => k2.block e.b (Nat.lt_of_lt_of_le (hltE e he) b1.size) (hneE e he))
  have HU2 := Lib.hid hu2
  have HI2 := Lib.hid hi2
  have HK2' := Lib.hid k2
  have HB1 := Lib.hid b1
  have km1 : X1.cell? ⟨d, 896, none⟩ = some (.map (some M)) := hwb1.cm
  have HBX2 := Lib.hid hbX2
  have HWB2 := Lib.hid hwb2
  have HLT := Lib.hid hltE
  have HNEM := Lib.hid hneE
  clear h hwb hlk hno hnew hid ha hnow hX1 b1 hbX1 hu2 hi2 hg2 k2 hbX2 hwb1 hwb2 hm hroom him hltE hneE
  go_enter Try.func9, Try.ntmps9
  go_upto_region 10 with (first
    | ((with_reducible show wpList _ _ _ (Oper.mk _ (Op.lookup _ _ _ _) _ _ _ _ :: _) _ _); refine wpList_val rfl (run_lookW rfl rfl rfl HLK.out) ?_)
    | (go_at_call 27; refine (wmadeG HWB.out).mono ?_; rintro e w1 ⟨rfl, rfl⟩)
    | (go_at_call 26; (with_reducible refine (wwithin id _ _ _).mono ?_); rintro e w1 ⟨rfl, rfl⟩; rw [HW1.out])
    | (go_at_call 26; (with_reducible refine (wwithin (a : Int) _ _ _).mono ?_); rintro e w1 ⟨rfl, rfl⟩; rw [HW2'.out]))
  refine wp_region_held_drew (S := fun w' => w' = w.drew) (by kernel_rfl) rfl (fun hS => ?_)
  refine held_pure (i := 0) (oi := ⟨some 43, _, _, _, _, _⟩) rfl (by kernel_rfl) (by kernel_rfl) (by kernel_rfl) (fun _ _ _ h => h) (by rfl) (v := ?_) (fun w hSw => ?_) hS (fun hS => ?_)
  rotate_left
  · go_simp; try with_reducible rfl
  try go_frame
  refine held_pure (i := 1) (oi := ⟨some 44, _, _, _, _, _⟩) rfl (by kernel_rfl) (by kernel_rfl) (by kernel_rfl) (fun _ _ _ h => h) (by rfl) (v := ?_) (fun w hSw => ?_) hS (fun hS => ?_)
  rotate_left
  · go_simp; try with_reducible rfl
  try go_frame
  refine held_pure (i := 2) (oi := ⟨some 45, _, _, _, _, _⟩) rfl (by kernel_rfl) (by kernel_rfl) (by kernel_rfl) (fun _ _ _ h => h) (by rfl) (v := ?_) (fun w hSw => ?_) hS (fun hS => ?_)
  rotate_left
  · go_simp; try with_reducible rfl
  try go_frame
  refine held_pure (i := 3) (oi := ⟨some 46, _, _, _, _, _⟩) rfl (by kernel_rfl) (by kernel_rfl) (by kernel_rfl) (fun _ _ _ h => h) (by rfl) (fun w hSw => run_load_mpW rfl rfl (by rw [hSw]; exact KM.out)) hS (fun hS => ?_)
  try go_frame
  refine held_pure (i := 4) (oi := ⟨some 47, _, _, _, _, _⟩) rfl (by kernel_rfl) (by kernel_rfl) (by kernel_rfl) (fun _ _ _ h => h) (by rfl) (v := ?_) (fun w hSw => ?_) hS (fun hS => ?_)
  rotate_left
  · go_simp; try with_reducible rfl
  try go_frame
  refine held_pure (i := 5) (oi := ⟨some 48, _, _, _, _, _⟩) rfl (by kernel_rfl) (by kernel_rfl) (by kernel_rfl) (fun _ _ _ h => h) (by rfl) (v := ?_) (fun w hSw => ?_) hS (fun hS => ?_)
  rotate_left
  · go_simp; try with_reducible rfl
  try go_frame
  refine held_pure (i := 6) (oi := ⟨some 49, _, _, _, _, _⟩) rfl (by kernel_rfl) (by kernel_rfl) (by kernel_rfl) (fun _ _ _ h => h) (by rfl) (v := ?_) (fun w hSw => ?_) hS (fun hS => ?_)
  rotate_left
  · go_simp; try with_reducible rfl
  try go_frame
  refine held_pure (i := 7) (oi := ⟨some 50, _, _, _, _, _⟩) rfl (by kernel_rfl) (by kernel_rfl) (by kernel_rfl) (fun _ _ _ h => h) (by rfl) (v := ?_) (fun w hSw => ?_) hS (fun hS => ?_)
  rotate_left
  · go_simp; try with_reducible rfl
  try go_frame
  refine held_pure (i := 8) (oi := ⟨some 51, _, _, _, _, _⟩) rfl (by kernel_rfl) (by kernel_rfl) (by kernel_rfl) (fun _ _ _ h => h) (by rfl) (fun w hSw => run_load_int rfl rfl (by rw [hSw]; exact KO.out)) hS (fun hS => ?_)
  try go_frame
  refine held_pure (i := 9) (oi := ⟨some 52, _, _, _, _, _⟩) rfl (by kernel_rfl) (by kernel_rfl) (by kernel_rfl) (fun _ _ _ h => h) (by rfl) (v := .bool false) (fun w hSw => by go_simp; try exact dF) hS (fun hS => ?_)
  try go_frame
  refine held_pure (i := 10) (oi := ⟨some 42, _, _, _, _, _⟩) rfl (by kernel_rfl) (by kernel_rfl) (by kernel_rfl) (fun _ _ _ h => h) (by rfl) (v := ?_) (fun w hSw => ?_) hS (fun hS => ?_)
  rotate_left
  · go_simp; try with_reducible rfl
  try go_frame
  refine wpAnyH_done (by kernel_rfl) ?_ _
  go_upto_region 7 with fail
  rw [HX1.out]
  go_upto_region 12 with ((with_reducible show wpList _ _ _ (Oper.mk _ (Op.mapUpdate _ _ _ _) _ _ _ _ :: _) _ _); refine wpList_plain rfl fun K' hK' => ?_; refine updW_wp rfl rfl rfl rfl HU2.out ?_; refine hK' _ _ ?_)
  have kn2 := HWB2.out.cn
  have t1 : X2.cell? ⟨w.heap.size, 1, none⟩ = some (.int .i64 0) := cells_at HBX2.out rfl
  have f1 := heap_frozen HBX2.out 1
  go_upto_region 13 with fail

  have g1 := heap_setCell_same X2 w.heap.size 1 _ _ (.int .i64 (m : Int)) HBX2.out
  have HKX : Hid (Kept (fun k => k = w.heap.size) X2 (X2.setCell ⟨w.heap.size, 1, none⟩ (.int .i64 (m : Int)))) := Lib.hid (Kept.setCell X2 w.heap.size 1 _)
  have HBX : Hid ((X2.setCell ⟨w.heap.size, 1, none⟩ (.int .i64 (m : Int))).heap[w.heap.size]? = some (.cells (tmG id (m : Int) none none none) 68 (0, 0))) := Lib.hid g1
  have HX3 := Lib.hid (HWB2.out.of_blocks (HKX.out.block d HWB2.out.lt (by omega)) (fun e he => HKX.out.block e.b (heap_lt (HWB2.out.blk he).choose_spec.choose_spec.choose_spec) (by have := HLT.out e he; omega)))
  generalize X2.setCell ⟨w.heap.size, 1, none⟩ (.int .i64 (m : Int)) = X3 at *
  clear g1 kn2 t1 f1 km1
  refine wp_region_held_drew (S := fun V => V.cell? ⟨w.heap.size, 1, none⟩ = some (.int .i64 (m : Int)) ∧ V.cell? ⟨d, 898, none⟩ = some (.int .i64 (now : Int))) (by kernel_rfl) ⟨cells_at HBX.out rfl, HX3.out.cn⟩ (fun hS => ?_)
  refine held_pure (i := 0) (oi := ⟨some 62, _, _, _, _, _⟩) rfl (by kernel_rfl) (by kernel_rfl) (by kernel_rfl) (fun _ _ _ h => h) (by rfl) (v := ?_) (fun w hSw => ?_) hS (fun hS => ?_)
  rotate_left
  · go_simp; try with_reducible rfl
  try go_frame
  refine held_pure (i := 1) (oi := ⟨some 63, _, _, _, _, _⟩) rfl (by kernel_rfl) (by kernel_rfl) (by kernel_rfl) (fun _ _ _ h => h) (by rfl) (v := ?_) (fun w hSw => ?_) hS (fun hS => ?_)
  rotate_left
  · go_simp; try with_reducible rfl
  try go_frame
  refine held_pure (i := 2) (oi := ⟨some 64, _, _, _, _, _⟩) rfl (by kernel_rfl) (by kernel_rfl) (by kernel_rfl) (fun _ _ _ h => h) (by rfl) (v := ?_) (fun w hSw => ?_) hS (fun hS => ?_)
  rotate_left
  · go_simp; try with_reducible rfl
  try go_frame
  refine held_pure (i := 3) (oi := ⟨some 65, _, _, _, _, _⟩) rfl (by kernel_rfl) (by kernel_rfl) (by kernel_rfl) (fun _ _ _ h => h) (by rfl) (v := ?_) (fun w hSw => ?_) hS (fun hS => ?_)
  rotate_left
  · go_simp; try with_reducible rfl
  try go_frame
  refine held_pure (i := 4) (oi := ⟨some 66, _, _, _, _, _⟩) rfl (by kernel_rfl) (by kernel_rfl) (by kernel_rfl) (fun _ _ _ h => h) (by rfl) (v := ?_) (fun w hSw => ?_) hS (fun hS => ?_)
  rotate_left
  · go_simp; try with_reducible rfl
  try go_frame
  refine held_pure (i := 5) (oi := ⟨some 67, _, _, _, _, _⟩) rfl (by kernel_rfl) (by kernel_rfl) (by kernel_rfl) (fun _ _ _ h => h) (by rfl) (v := ?_) (fun w hSw => ?_) hS (fun hS => ?_)
  rotate_left
  · go_simp; try with_reducible rfl
  try go_frame
  refine held_pure (i := 6) (oi := ⟨some 68, _, _, _, _, _⟩) rfl (by kernel_rfl) (by kernel_rfl) (by kernel_rfl) (fun _ _ _ h => h) (by rfl) (v := ?_) (fun w hSw => ?_) hS (fun hS => ?_)
  rotate_left
  · go_simp; try with_reducible rfl
  try go_frame
  refine held_pure (i := 7) (oi := ⟨some 69, _, _, _, _, _⟩) rfl (by kernel_rfl) (by kernel_rfl) (by kernel_rfl) (fun _ _ _ h => h) (by rfl) (fun w hSw => run_load_int rfl rfl hSw.1) hS (fun hS => ?_)
  try go_frame
  refine held_pure (i := 8) (oi := ⟨some 70, _, _, _, _, _⟩) rfl (by kernel_rfl) (by kernel_rfl) (by kernel_rfl) (fun _ _ _ h => h) (by rfl) (v := ?_) (fun w hSw => ?_) hS (fun hS => ?_)
  rotate_left
  · go_simp; try with_reducible rfl
  try go_frame
  refine held_pure (i := 9) (oi := ⟨some 71, _, _, _, _, _⟩) rfl (by kernel_rfl) (by kernel_rfl) (by kernel_rfl) (fun _ _ _ h => h) (by rfl) (v := ?_) (fun w hSw => ?_) hS (fun hS => ?_)
  rotate_left
  · go_simp; try with_reducible rfl
  try go_frame
  refine held_pure (i := 10) (oi := ⟨some 72, _, _, _, _, _⟩) rfl (by kernel_rfl) (by kernel_rfl) (by kernel_rfl) (fun _ _ _ h => h) (by rfl) (v := ?_) (fun w hSw => ?_) hS (fun hS => ?_)
  rotate_left
  · go_simp; try with_reducible rfl
  try go_frame
  refine held_pure (i := 11) (oi := ⟨some 73, _, _, _, _, _⟩) rfl (by kernel_rfl) (by kernel_rfl) (by kernel_rfl) (fun _ _ _ h => h) (by rfl) (fun w hSw => run_load_int rfl rfl hSw.2) hS (fun hS => ?_)
  try go_frame
  refine wpAnyH_ready (rs := [12]) (by kernel_rfl) (by simp) (AllReadyH.cons (o := ⟨some 74, _, _, _, _, _⟩) rfl (fun K hK => ?_) AllReadyH.nil)
  rw [if_pos (by rfl)]
  go_simp
  refine (wslot d m now X3.drew HAN.out.1 HAN.out.2).mono ?_
  rintro e y1 ⟨rfl, rfl⟩
  show K _ _
  refine hK.out _ _ (show _ ∧ _ from ⟨hS.1, hS.2⟩) (fun hS => ?_)
  clear hK K
  try go_frame
  refine wpAnyH_ready (rs := [13]) (by kernel_rfl) (by simp) (AllReadyH.cons (o := ⟨some 75, _, _, _, _, _⟩) rfl (fun K hK => ?_) AllReadyH.nil)
  rw [if_pos (by rfl)]
  go_simp
  refine (wstandG (w := X3.drew.drew) (q := slotN m now) (b := w.heap.size) (id := id) (m := m) HX3.out.drew.drew HAN2.out HBX.out).mono ?_
  rintro e y2 ⟨rfl, hw2, hk2⟩
  obtain ⟨l9, p9, n9, hb2⟩ := hw2.blk (e := ⟨slotN m now, w.heap.size, id, m⟩) (by simp)
  have hS2 : y2.cell? ⟨w.heap.size, 1, none⟩ = some (.int .i64 (m : Int)) ∧ y2.cell? ⟨d, 898, none⟩ = some (.int .i64 (now : Int)) := ⟨cells_at hb2 rfl, hw2.cn⟩
  have HW2 := Lib.hid hw2
  have HK2 := Lib.hid hk2
  clear hw2 hb2 hk2
  show K _ _
  refine hK.out _ _ hS2 (fun hS => ?_)
  clear hK K
  try go_frame
  refine wpAnyH_done (by kernel_rfl) ?_ _
  go_wp2
  refine bodyPost_ret (results_tmp rfl _ _ _) rfl ?_
  have hX1s := HB1.out.size
  have kA : Kept (fun k => k = w.heap.size ∨ Bk d M E k) X1 y2 := ((HK2'.out.mono (T := fun k => k = w.heap.size ∨ Bk d M E k) (fun _ _ e => .inr (.inr (.inl e)))).trans HKX.out (fun _ _ e => .inl e)).trans ((Kept.drew X3).trans ((Kept.drew X3.drew).trans HK2.out (fun _ _ e => e)) (fun _ _ e => e)) (fun _ _ e => by
    rcases e with e | e | e
    · exact .inl e
    · exact .inr (.inl e)
    · exact .inr (.inr (.inr e)))
  refine ⟨rfl, w.heap.size, Nat.le_refl _, ⟨HW2.out, ?_, fun e he => ?_, HAN.out.2⟩, ?_⟩
  · rw [List.map_append]
    refine Iw.perm (L := id :: E.map (·.id)) ?_ (List.perm_append_singleton id _).symm
    refine HI2.out.of_block ?_
    have hMX2 := HI2.out.lt
    have q1 := HKX.out.block M hMX2 (by omega)
    have q2 := HK2.out.block M (Nat.lt_of_lt_of_le hMX2 HKX.out.size) (by
      rintro (e | e | ⟨x, hx, e⟩)
      · omega
      · omega
      · exact HNEM.out x hx e.symm)
    exact q2.trans q1
  · rcases List.mem_append.1 he with he | he
    · exact H.out.st e he
    · rw [List.mem_singleton.1 he]
      exact ⟨rfl, HMN.out, HAN.out.1⟩
  · have kB : Kept (fun k => k = w.heap.size ∨ Bk d M E k) w y2 := (Kept.of_below HB1.out).trans kA (fun _ _ e => e)
    exact kB.mono (fun k hk e => by
      rcases e with e | e
      · omega
      · exact e)
end
end Go.Proofs.Ytjgcpaepaocigaa

/-
  Stable sorting in plain lists: what is sorted, in which order what is alike stands, two halves that are merged. No program. Conditions are each theorem's own.
-/
namespace Go.Proofs.Ytjgcpaepaocigaa
/-- In order, by R. -/
def Asc (R : Nat → Int) (L : List Nat) : Prop := L.Pairwise (fun x y => R x ≤ R y)
/-- S is L in order, and what is alike stands in S as it stood in L. -/
def Stb (R : Nat → Int) (S L : List Nat) : Prop := Asc R S ∧ ∀ k : Int, S.filter (fun b => R b == k) = L.filter (fun b => R b == k)
section
variable {R : Nat → Int} {S L A B A0 B0 Z X Y X1 X2 Y1 Y2 Z1 Z2 S1 S2 : List Nat} {x : Nat}
theorem Stb.mem (h : Stb R S L) (b : Nat) : b ∈ S ↔ b ∈ L := by
  have e := h.2 (R b)
  have h1 : b ∈ S ↔ b ∈ S.filter (fun c => R c == R b) := by simp
  have h2 : b ∈ L ↔ b ∈ L.filter (fun c => R c == R b) := by simp
  rw [h1, h2, e]
theorem Stb.perm (h : Stb R S L) : S.Perm L := List.perm_iff_count.2 (fun b => by
  have e := congrArg (List.count b) (h.2 (R b))
  rwa [List.count_filter (by simp), List.count_filter (by simp)] at e)
theorem Stb.len (h : Stb R S L) : S.length = L.length := h.perm.length_eq
theorem Stb.self (h : Asc R L) : Stb R L L := ⟨h, fun _ => rfl⟩
theorem Stb.glue (h : Stb R Z (A ++ B)) (ha : Stb R A A0) (hb : Stb R B B0) : Stb R Z (A0 ++ B0) := ⟨h.1, fun k => by rw [h.2 k, List.filter_append, List.filter_append, ha.2, hb.2]⟩
theorem Stb.put (h : Stb R (S1 ++ S2) L) (h1 : ∀ y ∈ S1, R y ≤ R x) (h2 : ∀ y ∈ S2, R x < R y) : Stb R (S1 ++ x :: S2) (L ++ [x]) := by
  refine ⟨?_, fun k => ?_⟩
  · have := List.pairwise_append.1 h.1
    refine List.pairwise_append.2 ⟨this.1, List.pairwise_cons.2 ⟨fun y hy => Int.le_of_lt (h2 y hy), this.2.1⟩, fun a ha b hb => ?_⟩
    rcases List.mem_cons.1 hb with rfl | hb
    · exact h1 a ha
    · exact this.2.2 a ha b hb
  · have e := h.2 k
    rw [List.filter_append] at e
    rw [List.filter_append, List.filter_append, ← e]
    by_cases hk : R x = k
    · have hS2 : S2.filter (fun b => R b == k) = [] := List.filter_eq_nil_iff.2 (fun y hy => by simp; have := h2 y hy; omega)
      simp [hk, hS2]
    · simp [hk]
theorem Stb.merge (hX : Asc R (X1 ++ X2)) (hY : Asc R (Y1 ++ Y2)) (h12 : ∀ y ∈ Y1, ∀ x ∈ X2, R y < R x) (h3 : ∀ x ∈ X1, ∀ y ∈ Y2, R x ≤ R y) (hz1 : Stb R Z1 (X1 ++ Y1)) (hz2 : Stb R Z2 (X2 ++ Y2)) :
    Stb R (Z1 ++ Z2) ((X1 ++ X2) ++ (Y1 ++ Y2)) := by
  have px := List.pairwise_append.1 hX
  have py := List.pairwise_append.1 hY
  refine ⟨List.pairwise_append.2 ⟨hz1.1, hz2.1, fun a ha b hb => ?_⟩, fun k => ?_⟩
  · have ha := (hz1.mem a).1 ha
    have hb := (hz2.mem b).1 hb
    rcases List.mem_append.1 ha with ha | ha <;> rcases List.mem_append.1 hb with hb | hb
    · exact px.2.2 a ha b hb
    · exact h3 a ha b hb
    · exact Int.le_of_lt (h12 a ha b hb)
    · exact py.2.2 a ha b hb
  · rw [List.filter_append, hz1.2, hz2.2]
    simp only [List.filter_append]
    by_cases he : ∃ y ∈ Y1, R y = k
    · obtain ⟨y, hy, hk⟩ := he
      have e : X2.filter (fun b => R b == k) = [] := List.filter_eq_nil_iff.2 (fun x hx => by simp; have := h12 y hy x hx; omega)
      rw [e]; simp
    · have e : Y1.filter (fun b => R b == k) = [] := List.filter_eq_nil_iff.2 (fun y hy => by simp; exact fun h => he ⟨y, hy, h⟩)
      rw [e]; simp
end
/-! ### Places -/
theorem get_midS {α : Type} {C D : List α} {x : α} {k : Nat} (h : C.length = k) : (C ++ x :: D)[k]? = some x := by subst h; simp
theorem set_midS {α : Type} {C D : List α} {x y : α} {k : Nat} (h : C.length = k) : (C ++ x :: D).set k y = C ++ y :: D := by subst h; simp
theorem set_twoS {α : Type} {C D E : List α} {x y : α} {i j : Nat} (hi : C.length = i) (hj : C.length + 1 + D.length = j) : ((C ++ x :: (D ++ y :: E)).set i y).set j x = C ++ y :: (D ++ x :: E) := by
  rw [set_midS hi]
  have e : C ++ y :: (D ++ y :: E) = (C ++ y :: D) ++ y :: E := by simp
  rw [e, set_midS (by simp; omega)]
  simp
theorem get_twoS {α : Type} {C D E : List α} {x y : α} {i j : Nat} (hi : C.length = i) (hj : C.length + 1 + D.length = j) : (C ++ x :: (D ++ y :: E))[i]? = some x ∧ (C ++ x :: (D ++ y :: E))[j]? = some y := by
  refine ⟨get_midS hi, ?_⟩
  have e : C ++ x :: (D ++ y :: E) = (C ++ x :: D) ++ y :: E := by simp
  rw [e]
  exact get_midS (by simp; omega)
/-- In order from lo on and below hi. -/
def AscI (R : Nat → Int) (L : List Nat) (lo hi : Nat) : Prop := ∀ i j, lo ≤ i → i ≤ j → j < hi → R (L.getD i 0) ≤ R (L.getD j 0)
theorem getD_mid {P X T : List Nat} {a i : Nat} (ha : P.length = a) (h0 : a ≤ i) (h1 : i < a + X.length) : ∃ h : i - a < X.length, (P ++ X ++ T).getD i 0 = X[i - a] := by
  subst ha
  refine ⟨by omega, ?_⟩
  rw [List.getD_eq_getElem?_getD, List.append_assoc, List.getElem?_append_right h0, List.getElem?_append_left (by omega), List.getElem?_eq_getElem (by omega)]
  rfl
theorem Asc.idx {R : Nat → Int} {P X T : List Nat} {a m : Nat} (h : Asc R X) (ha : P.length = a) (hm : a + X.length = m) : AscI R (P ++ X ++ T) a m := by
  intro i j h0 h1 h2
  obtain ⟨hi, ei⟩ := getD_mid (T := T) ha h0 (show i < a + X.length by omega)
  obtain ⟨hj, ej⟩ := getD_mid (T := T) ha (show a ≤ j by omega) (show j < a + X.length by omega)
  rw [ei, ej]
  rcases Nat.lt_or_ge i j with hlt | hge
  · exact List.pairwise_iff_getElem.1 h _ _ hi hj (by omega)
  · have : i = j := by omega
    subst this; exact Int.le_refl _
/-- Where both halves are cut, as the search between them tells. -/
theorem sym_split {R : Nat → Int} {P X Y Q : List Nat} {a m b mid s s0 r0 : Nat} (ha : P.length = a) (hm : a + X.length = m) (hb : m + Y.length = b) (hX : Asc R X) (hY : Asc R Y) (hmid : mid = (a + b) / 2)
    (hs0 : if mid < m then s0 = mid + m - b ∧ r0 = mid else s0 = a ∧ r0 = m) (h0 : s0 ≤ s) (h1 : s ≤ r0)
    (g1 : s0 < s → R ((P ++ X ++ Y ++ Q).getD (s - 1) 0) ≤ R ((P ++ X ++ Y ++ Q).getD (mid + m - s) 0))
    (g2 : s < r0 → R ((P ++ X ++ Y ++ Q).getD (mid + m - 1 - s) 0) < R ((P ++ X ++ Y ++ Q).getD s 0)) :
    (∀ y ∈ Y.take (mid - s), ∀ x ∈ X.drop (s - a), R y < R x) ∧ (∀ x ∈ X.take (s - a), ∀ y ∈ Y.drop (mid - s), R x ≤ R y) := by
  have iX : AscI R (P ++ X ++ Y ++ Q) a m := by rw [List.append_assoc (P ++ X)]; exact hX.idx ha hm
  have iY : AscI R (P ++ X ++ Y ++ Q) m b := hY.idx (P := P ++ X) (by rw [List.length_append]; omega) hb
  have eX : ∀ j (hj : j < X.length), X[j] = (P ++ X ++ Y ++ Q).getD (a + j) 0 := fun j hj => by
    obtain ⟨h, e⟩ := getD_mid (P := P) (X := X) (T := Y ++ Q) ha (show a ≤ a + j by omega) (by omega)
    rw [← List.append_assoc] at e
    rw [e]; congr 1; omega
  have eY : ∀ j (hj : j < Y.length), Y[j] = (P ++ X ++ Y ++ Q).getD (m + j) 0 := fun j hj => by
    obtain ⟨h, e⟩ := getD_mid (P := P ++ X) (X := Y) (T := Q) (a := m) (by rw [List.length_append]; omega) (show m ≤ m + j by omega) (by omega)
    rw [e]; congr 1; omega
  constructor
  · intro y hy x hx
    obtain ⟨i, hi, rfl⟩ := List.mem_iff_getElem.1 hy
    obtain ⟨j, hj, rfl⟩ := List.mem_iff_getElem.1 hx
    rw [List.getElem_take, List.getElem_drop, eY _ (by rw [List.length_take] at hi; omega), eX _ (by rw [List.length_drop] at hj; omega)]
    rw [List.length_take] at hi
    rw [List.length_drop] at hj
    have hlt : s < r0 := by
      split at hs0 <;> omega
    have k2 := g2 hlt
    have k1 := iY (m + i) (mid + m - 1 - s) (by omega) (by omega) (by split at hs0 <;> omega)
    have k3 := iX s (a + (s - a + j)) (by split at hs0 <;> omega) (by omega) (by omega)
    omega
  · intro x hx y hy
    obtain ⟨i, hi, rfl⟩ := List.mem_iff_getElem.1 hx
    obtain ⟨j, hj, rfl⟩ := List.mem_iff_getElem.1 hy
    rw [List.getElem_take, List.getElem_drop, eX _ (by rw [List.length_take] at hi; omega), eY _ (by rw [List.length_drop] at hj; omega)]
    rw [List.length_take] at hi
    rw [List.length_drop] at hj
    have hlt : s0 < s := by
      split at hs0 <;> omega
    have k2 := g1 hlt
    have k1 := iX (a + i) (s - 1) (by omega) (by omega) (by split at hs0 <;> omega)
    have k3 := iY (mid + m - s) (m + (mid - s + j)) (by split at hs0 <;> omega) (by omega) (by omega)
    omega
/-! ### Parts that are in order -/
/-- L is L0, each part of so many in order. -/
inductive Chunk (R : Nat → Int) (n : Nat) : List Nat → List Nat → Prop
  | last {Z X : List Nat} : Z.length ≤ n → Stb R Z X → Chunk R n Z X
  | cons {Z X T T0 : List Nat} : Z.length = n → Stb R Z X → Chunk R n T T0 → Chunk R n (Z ++ T) (X ++ T0)
/-- As many whole parts as there are. -/
inductive Fulls (R : Nat → Int) (n : Nat) : List Nat → List Nat → Prop
  | nil : Fulls R n [] []
  | snoc {D D0 Z X : List Nat} : Fulls R n D D0 → Z.length = n → Stb R Z X → Fulls R n (D ++ Z) (D0 ++ X)
section
variable {R : Nat → Int} {n : Nat} {D D0 T T0 L L0 : List Nat}
theorem Fulls.then (h : Fulls R n D D0) : ∀ {T T0 : List Nat}, Chunk R n T T0 → Chunk R n (D ++ T) (D0 ++ T0) := by
  induction h with
  | nil => intro T T0 k; exact k
  | snoc h1 hz hs ih =>
    intro T T0 k
    rw [List.append_assoc, List.append_assoc]
    exact ih (.cons hz hs k)
theorem Chunk.len (h : Chunk R n T T0) : T.length = T0.length := by
  induction h with
  | last _ h => exact h.len
  | cons _ h2 _ ih => rw [List.length_append, List.length_append, h2.len, ih]
theorem Chunk.two (h : Chunk R n T T0) (hn : 0 < n) (hl : 2 * n ≤ T.length) : ∃ Z1 Z2 T' X1 X2 T0', T = Z1 ++ (Z2 ++ T') ∧ T0 = X1 ++ (X2 ++ T0') ∧ Z1.length = n ∧ Z2.length = n ∧ Stb R Z1 X1 ∧ Stb R Z2 X2 ∧ Chunk R n T' T0' := by
  cases h with
  | last h1 _ => omega
  | cons h1 h2 h3 =>
    rw [List.length_append] at hl
    cases h3 with
    | last g1 g2 =>
      rename_i Z1 X1 Z2 X2
      exact ⟨Z1, Z2, [], X1, X2, [], by simp, by simp, h1, by omega, h2, g2, .last (Nat.zero_le _) (Stb.self List.Pairwise.nil)⟩
    | cons g1 g2 g3 => exact ⟨_, _, _, _, _, _, rfl, rfl, h1, g1, h2, g2, g3⟩
theorem Chunk.small (h : Chunk R n T T0) (hl : T.length ≤ n) : Stb R T T0 := by
  cases h with
  | last _ h => exact h
  | cons h1 h2 h3 =>
    rename_i Z X T T0
    rw [List.length_append] at hl
    have e : T = [] := List.eq_nil_of_length_eq_zero (by omega)
    subst e
    have e0 : T0 = [] := List.eq_nil_of_length_eq_zero (by have := h3.len; simpa using this.symm)
    subst e0
    simpa using h2
theorem Chunk.tail (h : Chunk R n T T0) (h1 : n < T.length) (h2 : T.length < 2 * n) : ∃ Z1 Z2 X1 X2, T = Z1 ++ Z2 ∧ T0 = X1 ++ X2 ∧ Z1.length = n ∧ Stb R Z1 X1 ∧ Stb R Z2 X2 := by
  cases h with
  | last g1 _ => omega
  | cons g1 g2 g3 =>
    rename_i Z X T T0
    rw [List.length_append] at h2
    exact ⟨Z, T, X, T0, rfl, rfl, g1, g2, g3.small (by omega)⟩
end
end Go.Proofs.Ytjgcpaepaocigaa
