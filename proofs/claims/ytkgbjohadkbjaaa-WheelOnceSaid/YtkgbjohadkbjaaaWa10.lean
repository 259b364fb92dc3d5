/-
  Contracts and lemmas on which the proofs of this seat stand (several texts in one). Conditions are each theorem's own.
-/
import Derived.Test.YtkgbjohadkbjaaaWa9
import Derived.Test.YtkgbjohadkbjaaaWa8
import Derived.WalkMore

/-
  reached of layer 17: what is taken out of the slots. Conditions are each theorem's own.
-/
namespace Go.Proofs.Ytkgbjohadkbjaaa
open Go.RowKit Go.Shelf Go.Maps Go.WideMaps
def clP_ (e : Te) : List Value := [.pointer (some ⟨e.b, 0, none⟩)]
def shN (r x : Nat) : Nat := x / 2 ^ (6 * r)
/-- Whether a timer is taken out. -/
def tkN (now : Nat) (e : Te) : Bool := decide (shN (e.q / 64) e.a ≤ shN (e.q / 64) now)
/-- What lies about while the slots are gone through: K is taken out, R not. -/
structure Sc (w0 : World) (B0 d M : Nat) (most : Int) (now0 : Nat) (E K R : List Te) (N : Nat) (v : Value) (w : World) : Prop where
  e : E = K ++ R
  T : ∃ T, Wb w d M most (now0 : Int) T ∧ (∀ e ∈ R, T e.q = some e.b) ∧ (∀ q, (∀ e ∈ R, e.q ≠ q) → T q = none)
  k : ∀ e ∈ K, w.heap[e.b]? = some (.cells (tmC e.id (e.a : Int) none) 87 (0, 0))
  r : ∀ e ∈ R, w.heap[e.b]? = some (.cells (tmC e.id (e.a : Int) (some ⟨d, 2 * e.q, none⟩)) 87 (0, 0))
  im : Iw w M N (E.map (·.id))
  own : w.ownsRow w0.heap.size 76 1 v K.length (K.flatMap clP_)
  bel : Below B0 w0 w
  size : w0.heap.size ≤ w.heap.size
theorem info_ptW : (Try.prog.info? 76).map (fun i => (i.zero, i.size, i.bytes)) = some (some (.pointer none), 1, 8) := by kernel_rfl
theorem append_ptW {w : World} {ops : Array Oper} {rest : List Oper} {o : Oper} {a : Act} {Q : Exit → Act → World → Prop} (hgd : o.guard = none) (s x : Operand)
    (ho : o.op = .call { callee := .builtin .append, args := #[s, x], argTypes := #[90, 90] })
    (base : Nat) (v : Value) (n : Nat) (xs : List Value) (hs : a.eval s = v) (hown : w.ownsRow base 76 1 v n xs)
    (g : Nat) (y : Option Addr) (hx : a.eval x = .slice (some ⟨g, 0, none⟩) 1 1) (hy : w.cell? ⟨g, 0, none⟩ = some (.pointer y))
    (hlen : n ≤ 1000000) (hbase : base ≤ w.heap.size)
    (h : ∀ v' w', w'.ownsRow base 76 1 v' (n + 1) (xs ++ [.pointer y]) → w.grownBy w' v.ownBlock → wpList Try.prog ops Q rest (a.put o.dst v') w') : wpList Try.prog ops Q (o :: rest) a w := by
  obtain ⟨i0, hi, hz0, hz1, hz2⟩ := info_parts info_ptW
  refine wpList_append_own w hgd s x 90 ho base 76 i0 _ 1 8 Try.underlying90 hi hz0 hz1 hz2 rfl (by decide) v n xs hs hown ⟨g, 0, none⟩ 1 1 [.pointer y] hx
      rfl (fun j u hu => ?_) (fun u hu => by simp at hu; subst hu; rfl) (by unfold maxLen; omega) (by omega) hbase (fun v' w' h1 h2 _ => h v' w' h1 h2)
  have hj : j = 0 := by have := (List.getElem?_eq_some_iff.1 hu).1; simpa using this
  subst hj
  simp at hu
  subst hu
  rw [add_off]; exact hy
theorem tw_eq {p : Te → Bool} {K R : List Te} (hK : ∀ e ∈ K, p e = true) (hR : ∀ e, R.head? = some e → p e = false) : (K ++ R).takeWhile p = K ∧ (K ++ R).dropWhile p = R := by
  induction K with
  | nil =>
    cases R with
    | nil => exact ⟨rfl, rfl⟩
    | cons e R =>
      have := hR e rfl
      simp [this]
  | cons k K ih =>
    have h1 := hK k (List.mem_cons_self ..)
    have h2 := ih (fun e he => hK e (List.mem_cons_of_mem _ he))
    simp [h1, h2.1, h2.2]
def slLen : Value → Nat
  | .slice _ n _ => n
  | _ => 0
section
variable {w0 w w4 w5 : World} {B0 d M N : Nat} {most : Int} {now0 : Nat} {E K R : List Te} {v v4 : Value} {e : Te}
theorem Sc.len (h : Sc w0 B0 d M most now0 E K R N v w) : ∃ A c, v = .slice A K.length c := by
  obtain ⟨A, c, e1, _⟩ := own_rds (cl := clP_) (sz := 1) h.own rfl rfl (fun _ _ => rfl)
  exact ⟨A, c, e1⟩
theorem Sc.wb (h : Sc w0 B0 d M most now0 E K (e :: R) N v w) : ∃ T, Wb w d M most (now0 : Int) T ∧ T e.q = some e.b := by
  obtain ⟨T, h1, h2, h3⟩ := h.T
  exact ⟨T, h1, h2 e (List.mem_cons_self ..)⟩
theorem Sc.drew (h : Sc w0 B0 d M most now0 E K R N v w) : Sc w0 B0 d M most now0 E K R N v w.drew := by
  obtain ⟨T, h1, h2⟩ := h.T
  exact ⟨h.e, ⟨T, h1.of_block rfl, h2⟩, h.k, h.r, h.im.of_block rfl, h.own, h.bel.drew, h.size⟩
theorem Sc.sl (h : Sc w0 B0 d M most now0 E K R N v w) : slLen v = K.length := by
  obtain ⟨A, c, e⟩ := h.len
  rw [e]; rfl
/-- One more is taken out. -/
theorem Sc.took (H : Ws w0 B0 d M most now0 E N) (h : Sc w0 B0 d M most now0 E K (e :: R) N v w) (hb : Below w0.heap.size w w4) (ho : w4.ownsRow w0.heap.size 76 1 v4 (K.length + 1) (K.flatMap clP_ ++ [.pointer (some ⟨e.b, 0, none⟩)]))
    {T : Nat → Option Nat} (hT : Wb w d M most (now0 : Int) T ∧ (∀ e' ∈ e :: R, T e'.q = some e'.b) ∧ (∀ q, (∀ e' ∈ e :: R, e'.q ≠ q) → T q = none))
    (hw5 : Wb w5 d M most (now0 : Int) (setT T e.q none)) (ht5 : w5.heap[e.b]? = some (.cells (tmC e.id (e.a : Int) none) 87 (0, 0))) (k5 : Kept (fun k => k = e.b ∨ k = d) w4 w5) : Sc w0 B0 d M most now0 E (K ++ [e]) R N v4 w5 := by
  have hE := h.e
  have hpw := H.pw
  rw [hE, List.pairwise_append] at hpw
  obtain ⟨_, hpw2, hpw3⟩ := hpw
  have heE : e ∈ E := by rw [hE]; simp
  have hlt : ∀ e' ∈ E, e'.b < w0.heap.size := fun e' he => heap_lt (H.tm e' he).1
  obtain ⟨T0, hw0, _⟩ := H.T
  have hd0 := hw0.lt
  have hM0 := H.im.lt
  have hz5 := k5.size
  have hz4 := hb.size
  have hzz := h.size
  have htimer : ∀ e' ∈ E, e'.b ≠ e.b → w5.heap[e'.b]? = w.heap[e'.b]? := fun e' he hn => by
    have h1 := hlt e' he
    rw [k5.block e'.b (by omega) (by rintro (e2 | e2); exact hn e2; exact (H.neT he).1 e2), hb.block e'.b h1]
  refine ⟨by rw [hE]; simp, ⟨_, hw5, fun e' he => ?_, fun q hq => ?_⟩, fun e' he => ?_, fun e' he => ?_, ?_, ?_, ?_, by omega⟩
  · unfold setT
    rw [if_neg (fun e2 => ((List.pairwise_cons.1 hpw2).1 e' he).1 e2.symm)]
    exact hT.2.1 e' (List.mem_cons_of_mem _ he)
  · unfold setT
    by_cases e2 : q = e.q
    · rw [if_pos e2]
    · rw [if_neg e2]
      refine hT.2.2 q (fun e' he => ?_)
      rcases List.mem_cons.1 he with rfl | he
      · exact fun e3 => e2 e3.symm
      · exact hq e' he
  · rcases List.mem_append.1 he with he | he
    · have hn := (hpw3 e' he e (List.mem_cons_self ..)).2
      rw [htimer e' (by rw [hE]; simp [he]) hn]
      exact h.k e' he
    · rw [List.mem_singleton] at he
      rw [he]; exact ht5
  · have hn := ((List.pairwise_cons.1 hpw2).1 e' he).2
    rw [htimer e' (by rw [hE]; simp [he]) (fun e2 => hn e2.symm)]
    exact h.r e' (List.mem_cons_of_mem _ he)
  · refine h.im.of_block ?_
    rw [k5.block M (by omega) (by rintro (e2 | e2); exact (H.neT heE).2 e2.symm; exact H.ne e2.symm), hb.block M hM0]
  · rw [List.length_append, List.flatMap_append]
    refine own_keptT (by simpa [clP_] using ho) k5 (fun g hg cs fr hh => ?_)
    rcases hg with rfl | rfl
    · have h1 := hb.block e.b (hlt e heE)
      rw [h1, h.r e (List.mem_cons_self ..)] at hh
      injection hh with hh
      injection hh with _ e2 _
      exact absurd e2 (nat_ne (by kernel_rfl))
    · obtain ⟨cs2, h2⟩ := hT.1.is
      have h1 := hb.block g hd0
      rw [h1, h2] at hh
      injection hh with hh
      injection hh with _ e2 _
      exact absurd e2 (nat_ne (by kernel_rfl))
  · refine (h.bel.trans (hb.mono H.bz)).trans (k5.below (by have := H.bz; omega) (fun i hi => ?_))
    rcases hi with rfl | rfl
    · exact (H.tm e heE).2.2
    · exact H.z.1
end
section
variable {w : World} {B0 d M N : Nat} {most : Int} {now0 now : Nat} {E : List Te}
set_option maxRecDepth 100000 in
set_option maxHeartbeats 2000000 in
theorem wreached (h : Ws w B0 d M most now0 E N) (hs : E.Pairwise (fun x y => x.q < y.q)) (hEl : E.length ≤ 1000) (hEa : ∀ e ∈ E, e.a ≤ 2 ^ 40) :
    Calls Try.prog 44 #[.pointer (some ⟨d, 0, none⟩), .int .i64 (now : Int)] w fun e w' => ∃ A c, e = .returned (.slice A (E.takeWhile (tkN now)).length c) ∧
      Sc w B0 d M most now0 E (E.takeWhile (tkN now)) (E.dropWhile (tkN now)) N (.slice A (E.takeWhile (tkN now)).length c) w' := by
  have h0 : Sc w B0 d M most now0 E [] E N (.slice none 0 0) w := ⟨rfl, h.T, fun e he => (by cases he), fun e he => (h.tm e he).1, h.im, World.ownsRow_nil _ _ _ _, Below.refl _ _, Nat.le_refl _⟩
  have H := Lib.hid h
  have HS := Lib.hid hs
  have HEL := Lib.hid hEl
  have HEA := Lib.hid hEa
  clear h hs hEl hEa
  go_enter Try.func44, Try.ntmps44
  go_wp2
  go_step3
  go_wp2
  go_step3
  go_wp2
  go_loopw [5, 9] (fun v z wr => ∃ (r : Nat) (K R : List Te) (vv : Value), vv = v ∧ r ≤ 7 ∧ z = .int .i64 (r : Int) ∧ Hid (Sc w B0 d M most now0 E K R N vv wr) ∧ Hid (∀ e ∈ K, tkN now e = true) ∧ Hid (∀ e ∈ R, 64 * r ≤ e.q))
    (fun _ z _ => 7 - (intOf z).toNat)
  case atStart => exact ⟨0, [], E, _, rfl, by omega, rfl, Lib.hid h0, Lib.hid (fun e he => by cases he), Lib.hid (fun e _ => by omega)⟩
  case round =>
    obtain ⟨r, K, R, v5, rfl, hr, rfl, HC, HK, HR⟩ := hrel
    clear h0
    by_cases hr7 : r < 7
    · have dr : decide ((r : Int) < 7) = true := decide_eq_true (by omega)
      go_wp2
      go_loopw [5, 12] (fun v z wr => ∃ (i : Nat) (K R : List Te) (vv : Value), vv = v ∧ i ≤ 64 ∧ z = .int .i64 (i : Int) ∧ Hid (Sc w B0 d M most now0 E K R N vv wr) ∧ Hid (∀ e ∈ K, tkN now e = true) ∧ Hid (∀ e ∈ R, 64 * r + i ≤ e.q))
        (fun _ z _ => 64 - (intOf z).toNat)
      case atStart => exact ⟨0, K, R, _, rfl, by omega, rfl, HC, HK, HR⟩
      case round =>
        clear HC HK HR
        obtain ⟨i, K, R, v5, rfl, hi, rfl, HC, HK, HR⟩ := hrel
        by_cases hi64 : i < 64
        · by_cases hin : ∃ e R', R = e :: R' ∧ e.q = 64 * r + i
          · obtain ⟨e, R, rfl, heq⟩ := hin
            obtain ⟨T, hT⟩ := HC.out.T
            have heE : e ∈ E := by rw [HC.out.e]; simp
            have kl : wr.cell? ⟨d, r * 128 + i * 2, none⟩ = some (.pointer (some ⟨e.b, 0, none⟩)) := by
              have := hT.1.l0 (q := 64 * r + i) (by omega)
              rw [← heq, hT.2.1 e (List.mem_cons_self ..), show 2 * e.q = r * 128 + i * 2 from by omega] at this
              exact this
            have hte := HC.out.r e (List.mem_cons_self ..)
            have ka : wr.cell? ⟨e.b, 1, none⟩ = some (.int .i64 (e.a : Int)) := cells_at hte rfl
            have KL : Hid (wr.drew.cell? ⟨d, r * 128 + i * 2, none⟩ = some (.pointer (some ⟨e.b, 0, none⟩))) := Lib.hid kl
            have KA : Hid (wr.drew.cell? ⟨e.b, 1, none⟩ = some (.int .i64 (e.a : Int))) := Lib.hid ka
            have hea := HEA.out e heE
            have h7 : r = 0 ∨ r = 1 ∨ r = 2 ∨ r = 3 ∨ r = 4 ∨ r = 5 ∨ r = 6 := by omega
            have hqr : e.q / 64 = r := by omega
            have HT := Lib.hid hT
            have HTE := Lib.hid hte
            clear hT hte
            by_cases hg : shN r now < shN r e.a
            · have dG : decide (((shN r now : Nat) : Int) < ((shN r e.a : Nat) : Int)) = true := decide_eq_true (by omega)
              go_upto_region 10 with fail
              refine wp_region_held_drew (S := fun w' => w' = wr.drew) (by kernel_rfl) rfl (fun hS => ?_)
              refine held_pure (i := 0) (oi := ⟨some 28, _, _, _, _, _⟩) rfl (by kernel_rfl) (by kernel_rfl) (by kernel_rfl) (fun _ _ _ h => h) (by rfl) (v := ?_) (fun w hSw => ?_) hS (fun hS => ?_)
              rotate_left
              · go_simp; try with_reducible rfl
              try go_frame
              refine held_pure (i := 1) (oi := ⟨some 29, _, _, _, _, _⟩) rfl (by kernel_rfl) (by kernel_rfl) (by kernel_rfl) (fun _ _ _ h => h) (by rfl) (v := ?_) (fun w hSw => ?_) hS (fun hS => ?_)
              rotate_left
              · go_simp; try with_reducible rfl
              try go_frame
              refine held_pure (i := 2) (oi := ⟨some 30, _, _, _, _, _⟩) rfl (by kernel_rfl) (by kernel_rfl) (by kernel_rfl) (fun _ _ _ h => h) (by rfl) (v := ?_) (fun w hSw => ?_) hS (fun hS => ?_)
              rotate_left
              · go_simp; try with_reducible rfl
              try go_frame
              refine held_pure (i := 3) (oi := ⟨some 31, _, _, _, _, _⟩) rfl (by kernel_rfl) (by kernel_rfl) (by kernel_rfl) (fun _ _ _ h => h) (by rfl) (fun w hSw => run_load_ptW rfl rfl (by rw [hSw]; exact KL.out)) hS (fun hS => ?_)
              try go_frame
              refine held_pure (i := 4) (oi := ⟨some 32, _, _, _, _, _⟩) rfl (by kernel_rfl) (by kernel_rfl) (by kernel_rfl) (fun _ _ _ h => h) (by rfl) (v := ?_) (fun w hSw => ?_) hS (fun hS => ?_)
              rotate_left
              · go_simp; try with_reducible rfl
              try go_frame
              refine held_pure (i := 5) (oi := ⟨some 33, _, _, _, _, _⟩) rfl (by kernel_rfl) (by kernel_rfl) (by kernel_rfl) (fun _ _ _ h => h) (by rfl) (v := ?_) (fun w hSw => ?_) hS (fun hS => ?_)
              rotate_left
              · go_simp; try with_reducible rfl
              try go_frame
              refine held_pure (i := 6) (oi := ⟨some 34, _, _, _, _, _⟩) rfl (by kernel_rfl) (by kernel_rfl) (by kernel_rfl) (fun _ _ _ h => h) (by rfl) (fun w hSw => run_load_int rfl rfl (by rw [hSw]; exact KA.out)) hS (fun hS => ?_)
              try go_frame
              refine held_pure (i := 7) (oi := ⟨some 35, _, _, _, _, _⟩) rfl (by kernel_rfl) (by kernel_rfl) (by kernel_rfl) (fun _ _ _ h => h) (by rfl) (v := ?_) (fun w hSw => ?_) hS (fun hS => ?_)
              rotate_left
              · go_simp; try with_reducible rfl
              try go_frame
              refine held_pure (i := 8) (oi := ⟨some 36, _, _, _, _, _⟩) rfl (by kernel_rfl) (by kernel_rfl) (by kernel_rfl) (fun _ _ _ h => h) (by rfl) (v := .int .i64 ((r * 6 : Nat) : Int)) (fun w hSw => by rcases h7 with rfl | rfl | rfl | rfl | rfl | rfl | rfl <;> go_simp <;> first | done | decide) hS (fun hS => ?_)
              try go_frame
              refine held_pure (i := 9) (oi := ⟨some 37, _, _, _, _, _⟩) rfl (by kernel_rfl) (by kernel_rfl) (by kernel_rfl) (fun _ _ _ h => h) (by rfl) (v := .int .i64 ((shN r e.a : Nat) : Int)) (fun w hSw => by rcases h7 with rfl | rfl | rfl | rfl | rfl | rfl | rfl <;> go_simp <;> simp [shN]) hS (fun hS => ?_)
              try go_frame
              refine held_pure (i := 10) (oi := ⟨some 38, _, _, _, _, _⟩) rfl (by kernel_rfl) (by kernel_rfl) (by kernel_rfl) (fun _ _ _ h => h) (by rfl) (v := ?_) (fun w hSw => ?_) hS (fun hS => ?_)
              rotate_left
              · go_simp; try with_reducible rfl
              try go_frame
              refine held_pure (i := 11) (oi := ⟨some 39, _, _, _, _, _⟩) rfl (by kernel_rfl) (by kernel_rfl) (by kernel_rfl) (fun _ _ _ h => h) (by rfl) (v := ?_) (fun w hSw => ?_) hS (fun hS => ?_)
              rotate_left
              · go_simp; try with_reducible rfl
              try go_frame
              refine held_pure (i := 12) (oi := ⟨some 40, _, _, _, _, _⟩) rfl (by kernel_rfl) (by kernel_rfl) (by kernel_rfl) (fun _ _ _ h => h) (by rfl) (v := .int .i64 ((r * 6 : Nat) : Int)) (fun w hSw => by rcases h7 with rfl | rfl | rfl | rfl | rfl | rfl | rfl <;> go_simp <;> first | done | decide) hS (fun hS => ?_)
              try go_frame
              refine held_pure (i := 13) (oi := ⟨some 41, _, _, _, _, _⟩) rfl (by kernel_rfl) (by kernel_rfl) (by kernel_rfl) (fun _ _ _ h => h) (by rfl) (v := .int .i64 ((shN r now : Nat) : Int)) (fun w hSw => by rcases h7 with rfl | rfl | rfl | rfl | rfl | rfl | rfl <;> go_simp <;> simp [shN]) hS (fun hS => ?_)
              try go_frame
              refine held_pure (i := 14) (oi := ⟨some 42, _, _, _, _, _⟩) rfl (by kernel_rfl) (by kernel_rfl) (by kernel_rfl) (fun _ _ _ h => h) (by rfl) (v := .bool true) (fun w hSw => by go_simp; try exact dG) hS (fun hS => ?_)
              try go_frame
              refine held_pure (i := 15) (oi := ⟨some 27, _, _, _, _, _⟩) rfl (by kernel_rfl) (by kernel_rfl) (by kernel_rfl) (fun _ _ _ h => h) (by rfl) (v := ?_) (fun w hSw => ?_) hS (fun hS => ?_)
              rotate_left
              · go_simp; try with_reducible rfl
              try go_frame
              refine wpAnyH_done (by kernel_rfl) ?_ _
              have HTW := Lib.hid (tw_eq (p := tkN now) (R := e :: R) HK.out (fun e' he' => by injection he' with he'; subst he'; unfold tkN; rw [hqr]; exact decide_eq_false (by omega)))
              obtain ⟨A, c, ev⟩ := HC.out.len
              subst ev
              clear kl ka
              go_wp2
              try rw [Exit.noGoto_ret]
              refine bodyPost_ret (results_tmp rfl _ _ _) rfl ?_
              have h9 := HTW.out
              rw [← HC.out.e] at h9
              rw [h9.1, h9.2]
              exact ⟨A, c, rfl, HC.out.drew⟩
            · have dG : decide (((shN r now : Nat) : Int) < ((shN r e.a : Nat) : Int)) = false := decide_eq_false (by omega)
              have HKE : Hid (tkN now e = true) := Lib.hid (by unfold tkN; rw [hqr]; exact decide_eq_true (by omega))
              go_upto_region 10 with fail
              refine wp_region_held_drew (S := fun w' => w' = wr.drew) (by kernel_rfl) rfl (fun hS => ?_)
              refine held_pure (i := 0) (oi := ⟨some 28, _, _, _, _, _⟩) rfl (by kernel_rfl) (by kernel_rfl) (by kernel_rfl) (fun _ _ _ h => h) (by rfl) (v := ?_) (fun w hSw => ?_) hS (fun hS => ?_)
              rotate_left
              · go_simp; try with_reducible rfl
              try go_frame
              refine held_pure (i := 1) (oi := ⟨some 29, _, _, _, _, _⟩) rfl (by kernel_rfl) (by kernel_rfl) (by kernel_rfl) (fun _ _ _ h => h) (by rfl) (v := ?_) (fun w hSw => ?_) hS (fun hS => ?_)
              rotate_left
              · go_simp; try with_reducible rfl
              try go_frame
              refine held_pure (i := 2) (oi := ⟨some 30, _, _, _, _, _⟩) rfl (by kernel_rfl) (by kernel_rfl) (by kernel_rfl) (fun _ _ _ h => h) (by rfl) (v := ?_) (fun w hSw => ?_) hS (fun hS => ?_)
              rotate_left
              · go_simp; try with_reducible rfl
              try go_frame
              refine held_pure (i := 3) (oi := ⟨some 31, _, _, _, _, _⟩) rfl (by kernel_rfl) (by kernel_rfl) (by kernel_rfl) (fun _ _ _ h => h) (by rfl) (fun w hSw => run_load_ptW rfl rfl (by rw [hSw]; exact KL.out)) hS (fun hS => ?_)
              try go_frame
              refine held_pure (i := 4) (oi := ⟨some 32, _, _, _, _, _⟩) rfl (by kernel_rfl) (by kernel_rfl) (by kernel_rfl) (fun _ _ _ h => h) (by rfl) (v := ?_) (fun w hSw => ?_) hS (fun hS => ?_)
              rotate_left
              · go_simp; try with_reducible rfl
              try go_frame
              refine held_pure (i := 5) (oi := ⟨some 33, _, _, _, _, _⟩) rfl (by kernel_rfl) (by kernel_rfl) (by kernel_rfl) (fun _ _ _ h => h) (by rfl) (v := ?_) (fun w hSw => ?_) hS (fun hS => ?_)
              rotate_left
              · go_simp; try with_reducible rfl
              try go_frame
              refine held_pure (i := 6) (oi := ⟨some 34, _, _, _, _, _⟩) rfl (by kernel_rfl) (by kernel_rfl) (by kernel_rfl) (fun _ _ _ h => h) (by rfl) (fun w hSw => run_load_int rfl rfl (by rw [hSw]; exact KA.out)) hS (fun hS => ?_)
              try go_frame
              refine held_pure (i := 7) (oi := ⟨some 35, _, _, _, _, _⟩) rfl (by kernel_rfl) (by kernel_rfl) (by kernel_rfl) (fun _ _ _ h => h) (by rfl) (v := ?_) (fun w hSw => ?_) hS (fun hS => ?_)
              rotate_left
              · go_simp; try with_reducible rfl
              try go_frame
              refine held_pure (i := 8) (oi := ⟨some 36, _, _, _, _, _⟩) rfl (by kernel_rfl) (by kernel_rfl) (by kernel_rfl) (fun _ _ _ h => h) (by rfl) (v := .int .i64 ((r * 6 : Nat) : Int)) (fun w hSw => by rcases h7 with rfl | rfl | rfl | rfl | rfl | rfl | rfl <;> go_simp <;> first | done | decide) hS (fun hS => ?_)
              try go_frame
              refine held_pure (i := 9) (oi := ⟨some 37, _, _, _, _, _⟩) rfl (by kernel_rfl) (by kernel_rfl) (by kernel_rfl) (fun _ _ _ h => h) (by rfl) (v := .int .i64 ((shN r e.a : Nat) : Int)) (fun w hSw => by rcases h7 with rfl | rfl | rfl | rfl | rfl | rfl | rfl <;> go_simp <;> simp [shN]) hS (fun hS => ?_)
              try go_frame
              refine held_pure (i := 10) (oi := ⟨some 38, _, _, _, _, _⟩) rfl (by kernel_rfl) (by kernel_rfl) (by kernel_rfl) (fun _ _ _ h => h) (by rfl) (v := ?_) (fun w hSw => ?_) hS (fun hS => ?_)
              rotate_left
              · go_simp; try with_reducible rfl
              try go_frame
              refine held_pure (i := 11) (oi := ⟨some 39, _, _, _, _, _⟩) rfl (by kernel_rfl) (by kernel_rfl) (by kernel_rfl) (fun _ _ _ h => h) (by rfl) (v := ?_) (fun w hSw => ?_) hS (fun hS => ?_)
              rotate_left
              · go_simp; try with_reducible rfl
              try go_frame
              refine held_pure (i := 12) (oi := ⟨some 40, _, _, _, _, _⟩) rfl (by kernel_rfl) (by kernel_rfl) (by kernel_rfl) (fun _ _ _ h => h) (by rfl) (v := .int .i64 ((r * 6 : Nat) : Int)) (fun w hSw => by rcases h7 with rfl | rfl | rfl | rfl | rfl | rfl | rfl <;> go_simp <;> first | done | decide) hS (fun hS => ?_)
              try go_frame
              refine held_pure (i := 13) (oi := ⟨some 41, _, _, _, _, _⟩) rfl (by kernel_rfl) (by kernel_rfl) (by kernel_rfl) (fun _ _ _ h => h) (by rfl) (v := .int .i64 ((shN r now : Nat) : Int)) (fun w hSw => by rcases h7 with rfl | rfl | rfl | rfl | rfl | rfl | rfl <;> go_simp <;> simp [shN]) hS (fun hS => ?_)
              try go_frame
              refine held_pure (i := 14) (oi := ⟨some 42, _, _, _, _, _⟩) rfl (by kernel_rfl) (by kernel_rfl) (by kernel_rfl) (fun _ _ _ h => h) (by rfl) (v := .bool false) (fun w hSw => by go_simp; try exact dG) hS (fun hS => ?_)
              try go_frame
              refine held_pure (i := 15) (oi := ⟨some 27, _, _, _, _, _⟩) rfl (by kernel_rfl) (by kernel_rfl) (by kernel_rfl) (fun _ _ _ h => h) (by rfl) (v := ?_) (fun w hSw => ?_) hS (fun hS => ?_)
              rotate_left
              · go_simp; try with_reducible rfl
              try go_frame
              refine wpAnyH_done (by kernel_rfl) ?_ _
              obtain ⟨L0, hL0⟩ : ∃ L0, L0 = K.length := ⟨_, rfl⟩
              have hL0' : L0 ≤ 1000 := by have h1 := HEL.out; have h2 := congrArg List.length HC.out.e; rw [List.length_append] at h2; omega
              have HL0 := Lib.hid hL0
              have HCD := Lib.hid HC.out.drew
              have HRN : Hid (∀ e ∈ R, 64 * r + (i + 1) ≤ e.q) := Lib.hid (fun k hk => by
                have hp := HS.out
                rw [HC.out.e, List.pairwise_append] at hp
                have h1 := (List.pairwise_cons.1 hp.2.1).1 k hk
                omega)
              clear kl ka KL KA hL0 dG HTE HT hS
              go_wp2
              go_loopw [5] (fun v wq => ∃ vv : Value, vv = v ∧ (Hid (Sc w B0 d M most now0 E K (e :: R) N vv wq) ∨ Hid (Sc w B0 d M most now0 E (K ++ [e]) R N vv wq)))
                (fun v _ => L0 + 1 - slLen v)
              case atStart => exact ⟨_, rfl, .inl HCD⟩
              case round =>
                clear HCD HC
                obtain ⟨v6, rfl, HC | HC⟩ := hrel
                · obtain ⟨T, hT⟩ := HC.out.T
                  have kl : wr.cell? ⟨d, r * 128 + i * 2, none⟩ = some (.pointer (some ⟨e.b, 0, none⟩)) := by
                    have := hT.1.l0 (q := 64 * r + i) (by omega)
                    rw [← heq, hT.2.1 e (List.mem_cons_self ..), show 2 * e.q = r * 128 + i * 2 from by omega] at this
                    exact this
                  have HT := Lib.hid hT
                  have hsl := HC.out.sl
                  rw [← HL0.out] at hsl
                  have HSL := Lib.hid hsl
                  obtain ⟨V2, hV2⟩ : ∃ V2, V2 = wr.alloc (.cells #[.pointer (some ⟨e.b, 0, none⟩)] 76) := ⟨_, rfl⟩
                  have HV2 := Lib.hid hV2
                  have b2 : Below w.heap.size wr V2 := by rw [hV2]; exact (Below.refl _ wr).alloc HC.out.size _
                  have b2' : Below wr.heap.size wr V2 := by rw [hV2]; exact (Below.refl _ wr).alloc (Nat.le_refl _) _
                  have hcy : V2.cell? ⟨wr.heap.size, 0, none⟩ = some (.pointer (some ⟨e.b, 0, none⟩)) := by rw [hV2]; exact cells_at (i := 0) (World.alloc_heap_new wr _) rfl
                  have hov : V2.ownsRow w.heap.size 76 1 v6 K.length (K.flatMap clP_) := own_below HC.out.own b2'
                  rw [← HL0.out] at hov
                  have hz2 : w.heap.size ≤ V2.heap.size := Nat.le_trans HC.out.size b2.size
                  have hqlt : e.q < 448 := by omega
                  clear hV2 hT hsl b2'
                  go_upto_region 13 with (first
                    | (at_builtin; rw [← HV2.out]; refine append_ptW rfl _ _ rfl w.heap.size v6 L0 (K.flatMap clP_) rfl hov wr.heap.size (some ⟨e.b, 0, none⟩) rfl hcy (by omega) hz2 ?_; intro v4 w4 hown4 hgrow; have b4 := b2.grown hgrow hz2 (fun k hk => own_block_ge hov k hk); have HOW := Lib.hid hown4; clear hown4 hgrow))
                  have hT4 := HT.out.1.of_block (b4.block d (by obtain ⟨T0, h9, _⟩ := H.out.T; exact h9.lt))
                  have kl4 : w4.cell? ⟨d, r * 128 + i * 2, none⟩ = some (.pointer (some ⟨e.b, 0, none⟩)) := by
                    have := hT4.l0 (q := 64 * r + i) (by omega)
                    rw [← heq, HT.out.2.1 e (List.mem_cons_self ..), show 2 * e.q = r * 128 + i * 2 from by omega] at this
                    exact this
                  have ht4 := (b4.block e.b (by have := heap_lt (H.out.tm e heE).1; exact this)).trans (HC.out.r e (List.mem_cons_self ..))
                  have HLV := Lib.hid (wleave hT4 hqlt (HT.out.2.1 e (List.mem_cons_self ..)) ht4)
                  have HB4 := Lib.hid b4
                  clear hT4 ht4 b4 hov hcy b2 kl
                  go_wp2_with (go_at_call 41; refine HLV.out.mono ?_; rintro e2 w5 ⟨rfl, hw5, ht5, hk5⟩; have HW5 := Lib.hid hw5; have HT5 := Lib.hid ht5; have HK5 := Lib.hid hk5; clear hw5 ht5 hk5)
                  have hnew := Sc.took H.out HC.out HB4.out (by rw [← HL0.out]; exact HOW.out) HT.out HW5.out HT5.out HK5.out
                  have hs4 := hnew.sl
                  go_roundw
                  case rel => exact ⟨v4, rfl, .inr (Lib.hid hnew)⟩
                  case measure =>
                    rw [List.length_append, ← HL0.out] at hs4
                    have := HSL.out
                    simp at hs4
                    omega
                · obtain ⟨T, hT1, hT2, hT3⟩ := HC.out.T
                  have kl : wr.cell? ⟨d, r * 128 + i * 2, none⟩ = some (.pointer none) := by
                    have := hT1.l0 (q := 64 * r + i) (by omega)
                    rw [hT3 _ (fun k hk => by have := HRN.out k hk; omega), show 2 * (64 * r + i) = r * 128 + i * 2 from by omega] at this
                    exact this
                  clear hT1 hT2 hT3
                  go_wp2
                  go_roundw
                  case rel => exact ⟨i + 1, K ++ [e], R, _, rfl, by omega, by simp, HC, Lib.hid (fun k hk => by rcases List.mem_append.1 hk with h9 | h9; exact HK.out k h9; rw [List.mem_singleton] at h9; rw [h9]; exact HKE.out), HRN⟩
                  case measure => simp [intOf]; omega
          · have hnone : ∀ e ∈ R, e.q ≠ 64 * r + i := fun e he e2 => by
              have hp := HS.out
              rw [HC.out.e, List.pairwise_append] at hp
              cases R with
              | nil => cases he
              | cons k R =>
                rcases List.mem_cons.1 he with rfl | he'
                · exact hin ⟨_, R, rfl, e2⟩
                · have h1 := (List.pairwise_cons.1 hp.2.1).1 e he'
                  have h2 := HR.out k (List.mem_cons_self ..)
                  omega
            obtain ⟨T, hT1, hT2, hT3⟩ := HC.out.T
            have kl : wr.cell? ⟨d, r * 128 + i * 2, none⟩ = some (.pointer none) := by
              have := hT1.l0 (q := 64 * r + i) (by omega)
              rw [hT3 _ hnone, show 2 * (64 * r + i) = r * 128 + i * 2 from by omega] at this
              exact this
            have HRN : Hid (∀ e ∈ R, 64 * r + (i + 1) ≤ e.q) := Lib.hid (fun e he => by have h1 := HR.out e he; have h2 := hnone e he; omega)
            clear hnone hT1 hT2 hT3 hin
            go_wp2
            go_roundw
            case rel => exact ⟨i + 1, K, R, _, rfl, by omega, by simp, HC, HK, HRN⟩
            case measure => simp [intOf]; omega
        · obtain rfl : i = 64 := by omega
          go_wp2
          go_roundw
          case rel => exact ⟨r + 1, K, R, _, rfl, by omega, by simp, HC, HK, Lib.hid (fun e he => by have := HR.out e he; omega)⟩
          case measure => simp [intOf]; omega
    · obtain rfl : r = 7 := by omega
      have hRn : R = [] := by
        cases R with
        | nil => rfl
        | cons e R =>
          have h1 := HR.out e (List.mem_cons_self ..)
          have h2 := (H.out.tm e (by rw [HC.out.e]; simp)).2.1
          omega
      have HTW := Lib.hid (tw_eq (p := tkN now) (R := R) HK.out (fun e' he' => by rw [hRn] at he'; cases he'))
      obtain ⟨A, c, ev⟩ := HC.out.len
      subst ev
      clear hRn
      go_wp2
      try rw [Exit.noGoto_ret]
      refine bodyPost_ret (results_tmp rfl _ _ _) rfl ?_
      have h9 := HTW.out
      rw [← HC.out.e] at h9
      rw [h9.1, h9.2]
      exact ⟨A, c, rfl, HC.out⟩
end
end Go.Proofs.Ytkgbjohadkbjaaa

/-
  The stable sort of at most two timers that are in order. Conditions are each theorem's own.
-/
namespace Go.Proofs.Ytkgbjohadkbjaaa
open Go.RowKit
def cmpI (a b : Int) : Int := if a < b then -1 else if b < a then 1 else 0
theorem wcnan (n : Int) (w : World) : Calls Try.prog 69 #[.int .i64 n] w fun e w' => e = .returned (.bool false) ∧ w = w' := by
  have h : (n != n) = false := by simp
  go_enter Try.func69, Try.ntmps69
  go_wp2
  go_ret
  exact ⟨rfl, rfl⟩
theorem wccmp (a b : Int) (w : World) : Calls Try.prog 47 #[.int .i64 a, .int .i64 b] w fun e w' => e = .returned (.int .i64 (cmpI a b)) ∧ w = w' := by
  by_cases h1 : a < b
  · have HC := Lib.hid (show cmpI a b = -1 from if_pos h1)
    have d1 : decide (a < b) = true := decide_eq_true h1
    clear h1
    go_enter Try.func47, Try.ntmps47
    go_wp2_with (go_at_call 69; refine (wcnan _ _).mono ?_; rintro e w1 ⟨rfl, rfl⟩)
    go_ret
    exact ⟨by rw [HC.out]; rfl, rfl⟩
  · have d1 : decide (a < b) = false := decide_eq_false h1
    by_cases h2 : b < a
    · have HC := Lib.hid (show cmpI a b = 1 from by rw [cmpI, if_neg h1, if_pos h2])
      have d2 : decide (b < a) = true := decide_eq_true h2
      clear h1 h2
      go_enter Try.func47, Try.ntmps47
      go_wp2_with (go_at_call 69; refine (wcnan _ _).mono ?_; rintro e w1 ⟨rfl, rfl⟩)
      go_ret
      exact ⟨by rw [HC.out]; rfl, rfl⟩
    · have HC := Lib.hid (show cmpI a b = 0 from by rw [cmpI, if_neg h1, if_neg h2])
      have d2 : decide (b < a) = false := decide_eq_false h2
      clear h1 h2
      go_enter Try.func47, Try.ntmps47
      go_wp2_with (go_at_call 69; refine (wcnan _ _).mono ?_; rintro e w1 ⟨rfl, rfl⟩)
      go_ret
      exact ⟨by rw [HC.out]; rfl, rfl⟩
theorem wadv1 {b c : Nat} {x y : Int} {w : World} (h1 : w.cell? ⟨b, 1, none⟩ = some (.int .i64 x)) (h2 : w.cell? ⟨c, 1, none⟩ = some (.int .i64 y)) :
    Calls Try.prog 46 #[.pointer (some ⟨b, 0, none⟩), .pointer (some ⟨c, 0, none⟩)] w fun e w' => e = .returned (.int .i64 (cmpI x y)) ∧ w' = w.drew := by
  have K1 : Hid (w.drew.cell? ⟨b, 1, none⟩ = some (.int .i64 x)) := Lib.hid h1
  have K2 : Hid (w.drew.cell? ⟨c, 1, none⟩ = some (.int .i64 y)) := Lib.hid h2
  clear h1 h2
  go_enter Try.func46, Try.ntmps46
  go_upto_region 1 with fail
  refine wp_region_held_drew (S := fun w' => w' = w.drew) (by kernel_rfl) rfl (fun hS => ?_)
  refine held_pure (i := 0) (oi := ⟨some 5, _, _, _, _, _⟩) rfl (by kernel_rfl) (by kernel_rfl) (by kernel_rfl) (fun _ _ _ h => h) (by rfl) (v := ?_) (fun w hSw => ?_) hS (fun hS => ?_)
  rotate_left
  · go_simp; try with_reducible rfl
  try go_frame
  refine held_pure (i := 1) (oi := ⟨some 6, _, _, _, _, _⟩) rfl (by kernel_rfl) (by kernel_rfl) (by kernel_rfl) (fun _ _ _ h => h) (by rfl) (v := ?_) (fun w hSw => ?_) hS (fun hS => ?_)
  rotate_left
  · go_simp; try with_reducible rfl
  try go_frame
  refine held_pure (i := 2) (oi := ⟨some 7, _, _, _, _, _⟩) rfl (by kernel_rfl) (by kernel_rfl) (by kernel_rfl) (fun _ _ _ h => h) (by rfl) (v := ?_) (fun w hSw => ?_) hS (fun hS => ?_)
  rotate_left
  · go_simp; try with_reducible rfl
  try go_frame
  refine held_pure (i := 3) (oi := ⟨some 8, _, _, _, _, _⟩) rfl (by kernel_rfl) (by kernel_rfl) (by kernel_rfl) (fun _ _ _ h => h) (by rfl) (fun w hSw => run_load_int rfl rfl (by rw [hSw]; exact K1.out)) hS (fun hS => ?_)
  try go_frame
  refine held_pure (i := 4) (oi := ⟨some 9, _, _, _, _, _⟩) rfl (by kernel_rfl) (by kernel_rfl) (by kernel_rfl) (fun _ _ _ h => h) (by rfl) (v := ?_) (fun w hSw => ?_) hS (fun hS => ?_)
  rotate_left
  · go_simp; try with_reducible rfl
  try go_frame
  refine held_pure (i := 5) (oi := ⟨some 10, _, _, _, _, _⟩) rfl (by kernel_rfl) (by kernel_rfl) (by kernel_rfl) (fun _ _ _ h => h) (by rfl) (v := ?_) (fun w hSw => ?_) hS (fun hS => ?_)
  rotate_left
  · go_simp; try with_reducible rfl
  try go_frame
  refine held_pure (i := 6) (oi := ⟨some 11, _, _, _, _, _⟩) rfl (by kernel_rfl) (by kernel_rfl) (by kernel_rfl) (fun _ _ _ h => h) (by rfl) (v := ?_) (fun w hSw => ?_) hS (fun hS => ?_)
  rotate_left
  · go_simp; try with_reducible rfl
  try go_frame
  refine held_pure (i := 7) (oi := ⟨some 12, _, _, _, _, _⟩) rfl (by kernel_rfl) (by kernel_rfl) (by kernel_rfl) (fun _ _ _ h => h) (by rfl) (fun w hSw => run_load_int rfl rfl (by rw [hSw]; exact K2.out)) hS (fun hS => ?_)
  try go_frame
  refine wpAnyH_ready (rs := [8]) (by kernel_rfl) (by simp) (AllReadyH.cons (o := ⟨some 13, _, _, _, _, _⟩) rfl (fun K hK => ?_) AllReadyH.nil)
  rw [if_pos (by rfl)]
  go_simp
  refine (wccmp _ _ _).mono ?_
  rintro e y8 ⟨rfl, rfl⟩
  show K _ _
  refine hK.out _ _ hS (fun hS => ?_)
  clear hK K
  try go_frame
  refine held_pure (i := 9) (oi := ⟨some 4, _, _, _, _, _⟩) rfl (by kernel_rfl) (by kernel_rfl) (by kernel_rfl) (fun _ _ _ h => h) (by rfl) (v := ?_) (fun w hSw => ?_) hS (fun hS => ?_)
  rotate_left
  · go_simp; try with_reducible rfl
  try go_frame
  refine wpAnyH_done (by kernel_rfl) ?_ _
  go_wp2_with fail
  go_ret
  exact ⟨rfl, rfl⟩
set_option maxRecDepth 100000 in
theorem wsins_one (A : Option Addr) (n c : Nat) (f : Value) (w : World) (hn : n ≤ 1) :
    Calls Try.prog 100 #[.slice A n c, .int .i64 0, .int .i64 (n : Int), f] w fun e w' => e = .returned (.tuple #[]) ∧ w = w' := by
  have d1 : decide (1 < (n : Int)) = false := decide_eq_false (by omega)
  go_enter Try.func100, Try.ntmps100
  go_wp2
  go_loopw [8] (fun z wr => z = .int .i64 1 ∧ wr = w) (fun _ _ => 0)
  case atStart => exact ⟨rfl, rfl⟩
  case round =>
    obtain ⟨rfl, rfl⟩ := hrel
    go_wp2
    exact bodyPost_end (results_none rfl _ _ _) rfl ⟨rfl, rfl⟩
set_option maxRecDepth 100000 in
set_option maxHeartbeats 1000000 in
theorem wsins_two {g off b0 b1 c : Nat} {x0 x1 : Int} {w : World} (c0 : w.cell? ⟨g, off, none⟩ = some (.pointer (some ⟨b0, 0, none⟩))) (c1 : w.cell? ⟨g, off + 1, none⟩ = some (.pointer (some ⟨b1, 0, none⟩)))
    (y0 : w.cell? ⟨b0, 1, none⟩ = some (.int .i64 x0)) (y1 : w.cell? ⟨b1, 1, none⟩ = some (.int .i64 x1)) (hx : x0 ≤ x1) (hg : g < w.heap.size) (h0 : b0 < w.heap.size) (h1 : b1 < w.heap.size) :
    Calls Try.prog 100 #[.slice (some ⟨g, off, none⟩) 2 c, .int .i64 0, .int .i64 2, .func (.func 46) #[] #[]] w fun e w' => e = .returned (.tuple #[]) ∧ Below w.heap.size w w' := by
  have C0 : Hid (∀ U, Below w.heap.size w U → U.cell? ⟨g, off, none⟩ = some (.pointer (some ⟨b0, 0, none⟩))) := Lib.hid fun U h => (h.cell (p := ⟨g, off, none⟩) hg).trans c0
  have C1 : Hid (∀ U, Below w.heap.size w U → U.cell? ⟨g, off + 1, none⟩ = some (.pointer (some ⟨b1, 0, none⟩))) := Lib.hid fun U h => (h.cell (p := ⟨g, off + 1, none⟩) hg).trans c1
  have X0 : Hid (∀ U, Below w.heap.size w U → U.cell? ⟨b0, 1, none⟩ = some (.int .i64 x0)) := Lib.hid fun U h => (h.cell (p := ⟨b0, 1, none⟩) h0).trans y0
  have X1 : Hid (∀ U, Below w.heap.size w U → U.cell? ⟨b1, 1, none⟩ = some (.int .i64 x1)) := Lib.hid fun U h => (h.cell (p := ⟨b1, 1, none⟩) h1).trans y1
  obtain ⟨cr, hcr⟩ : ∃ r, r = cmpI x1 x0 := ⟨_, rfl⟩
  have dc : decide (cr < 0) = false := decide_eq_false (by rw [hcr]; unfold cmpI; split; omega; split <;> omega)
  have HCR := Lib.hid hcr
  clear c0 c1 y0 y1 hx hg h0 h1 hcr
  go_enter Try.func100, Try.ntmps100
  go_wp2
  go_loopw [8] (fun z wr => ∃ i : Nat, (i = 1 ∨ i = 2) ∧ z = .int .i64 (i : Int) ∧ Below w.heap.size w wr) (fun z _ => 2 - (intOf z).toNat)
  case atStart => exact ⟨1, .inl rfl, rfl, Below.refl _ _⟩
  case round =>
    obtain ⟨i, rfl | rfl, rfl, hb⟩ := hrel
    · go_wp2
      go_loopw [9] (fun z wr => z = .int .i64 1 ∧ Below w.heap.size w wr) (fun _ _ => 0)
      case atStart => exact ⟨rfl, hb⟩
      case round =>
        clear hb
        obtain ⟨rfl, hb⟩ := hrel
        go_upto_region 4 with fail
        refine wp_region_held_drew (S := fun w' => Below w.heap.size w w') (by kernel_rfl) hb.drew (fun hS => ?_)
        refine held_pure (i := 0) (oi := ⟨some 18, _, _, _, _, _⟩) rfl (by kernel_rfl) (by kernel_rfl) (by kernel_rfl) (fun _ _ _ h => h) (by rfl) (v := ?_) (fun w hSw => ?_) hS (fun hS => ?_)
        rotate_left
        · go_simp; try with_reducible rfl
        try go_frame
        refine held_pure (i := 1) (oi := ⟨some 19, _, _, _, _, _⟩) rfl (by kernel_rfl) (by kernel_rfl) (by kernel_rfl) (fun _ _ _ h => h) (by rfl) (v := ?_) (fun w hSw => ?_) hS (fun hS => ?_)
        rotate_left
        · go_simp; try with_reducible rfl
        try go_frame
        refine held_pure (i := 2) (oi := ⟨some 20, _, _, _, _, _⟩) rfl (by kernel_rfl) (by kernel_rfl) (by kernel_rfl) (fun _ _ _ h => h) (by rfl) (v := ?_) (fun w hSw => ?_) hS (fun hS => ?_)
        rotate_left
        · go_simp; try with_reducible rfl
        try go_frame
        refine held_pure (i := 3) (oi := ⟨some 21, _, _, _, _, _⟩) rfl (by kernel_rfl) (by kernel_rfl) (by kernel_rfl) (fun _ _ _ h => h) (by rfl) (v := ?_) (fun w hSw => ?_) hS (fun hS => ?_)
        rotate_left
        · go_simp; try with_reducible rfl
        try go_frame
        refine held_pure (i := 4) (oi := ⟨some 22, _, _, _, _, _⟩) rfl (by kernel_rfl) (by kernel_rfl) (by kernel_rfl) (fun _ _ _ h => h) (by rfl) (v := ?_) (fun w hSw => ?_) hS (fun hS => ?_)
        rotate_left
        · go_simp; try with_reducible rfl
        try go_frame
        refine held_pure (i := 5) (oi := ⟨some 23, _, _, _, _, _⟩) rfl (by kernel_rfl) (by kernel_rfl) (by kernel_rfl) (fun _ _ _ h => h) (by rfl) (v := ?_) (fun w hSw => ?_) hS (fun hS => ?_)
        rotate_left
        · go_simp; try with_reducible rfl
        try go_frame
        refine held_pure (i := 6) (oi := ⟨some 24, _, _, _, _, _⟩) rfl (by kernel_rfl) (by kernel_rfl) (by kernel_rfl) (fun _ _ _ h => h) (by rfl) (v := ?_) (fun w hSw => ?_) hS (fun hS => ?_)
        rotate_left
        · go_simp; try with_reducible rfl
        try go_frame
        refine held_pure (i := 7) (oi := ⟨some 25, _, _, _, _, _⟩) rfl (by kernel_rfl) (by kernel_rfl) (by kernel_rfl) (fun _ _ _ h => h) (by rfl) (v := ?_) (fun w hSw => ?_) hS (fun hS => ?_)
        rotate_left
        · go_simp; try with_reducible rfl
        try go_frame
        refine held_pure (i := 8) (oi := ⟨some 26, _, _, _, _, _⟩) rfl (by kernel_rfl) (by kernel_rfl) (by kernel_rfl) (fun _ _ _ h => h) (by rfl) (fun w hSw => run_load_ptW (p := ⟨g, off + 1, none⟩) rfl rfl (C1.out _ hSw)) hS (fun hS => ?_)
        try go_frame
        refine held_pure (i := 9) (oi := ⟨some 27, _, _, _, _, _⟩) rfl (by kernel_rfl) (by kernel_rfl) (by kernel_rfl) (fun _ _ _ h => h) (by rfl) (v := ?_) (fun w hSw => ?_) hS (fun hS => ?_)
        rotate_left
        · go_simp; try with_reducible rfl
        try go_frame
        refine held_pure (i := 10) (oi := ⟨some 28, _, _, _, _, _⟩) rfl (by kernel_rfl) (by kernel_rfl) (by kernel_rfl) (fun _ _ _ h => h) (by rfl) (v := ?_) (fun w hSw => ?_) hS (fun hS => ?_)
        rotate_left
        · go_simp; try with_reducible rfl
        try go_frame
        refine held_pure (i := 11) (oi := ⟨some 29, _, _, _, _, _⟩) rfl (by kernel_rfl) (by kernel_rfl) (by kernel_rfl) (fun _ _ _ h => h) (by rfl) (v := .int .i64 0) (fun w hSw => by go_simp; first | done | rfl | decide) hS (fun hS => ?_)
        try go_frame
        refine held_pure (i := 12) (oi := ⟨some 30, _, _, _, _, _⟩) rfl (by kernel_rfl) (by kernel_rfl) (by kernel_rfl) (fun _ _ _ h => h) (by rfl) (v := ?_) (fun w hSw => ?_) hS (fun hS => ?_)
        rotate_left
        · go_simp; try with_reducible rfl
        try go_frame
        refine held_pure (i := 13) (oi := ⟨some 31, _, _, _, _, _⟩) rfl (by kernel_rfl) (by kernel_rfl) (by kernel_rfl) (fun _ _ _ h => h) (by rfl) (fun w hSw => run_load_ptW (p := ⟨g, off, none⟩) rfl rfl (C0.out _ hSw)) hS (fun hS => ?_)
        try go_frame
        refine wpAnyH_ready (rs := [14]) (by kernel_rfl) (by simp) (AllReadyH.cons (o := ⟨some 32, _, _, _, _, _⟩) rfl (fun K hK => ?_) AllReadyH.nil)
        rw [if_pos (by rfl)]
        go_simp
        refine (wadv1 (X1.out _ hS) (X0.out _ hS)).mono ?_
        rintro e y14 ⟨rfl, rfl⟩
        rw [← HCR.out]
        show K _ _
        refine hK.out _ _ hS.drew (fun hS => ?_)
        clear hK K
        try go_frame
        refine held_pure (i := 15) (oi := ⟨some 33, _, _, _, _, _⟩) rfl (by kernel_rfl) (by kernel_rfl) (by kernel_rfl) (fun _ _ _ h => h) (by rfl) (v := ?_) (fun w hSw => ?_) hS (fun hS => ?_)
        rotate_left
        · go_simp; try with_reducible rfl
        try go_frame
        refine held_pure (i := 16) (oi := ⟨some 34, _, _, _, _, _⟩) rfl (by kernel_rfl) (by kernel_rfl) (by kernel_rfl) (fun _ _ _ h => h) (by rfl) (v := ?_) (fun w hSw => ?_) hS (fun hS => ?_)
        rotate_left
        · go_simp; try with_reducible rfl
        try go_frame
        refine wpAnyH_done (by kernel_rfl) ?_ _
        go_wp2_with fail
        go_roundw
        case rel => exact ⟨2, .inr rfl, rfl, hS⟩
        case measure => simp [intOf]
    · go_wp2
      exact bodyPost_end (results_none rfl _ _ _) rfl ⟨rfl, hb⟩
def wsTwo (A : Option Addr) (n : Nat) (w : World) : Prop := n ≤ 1 ∨ ∃ g off b0 b1 : Nat, ∃ x0 x1 : Int, A = some ⟨g, off, none⟩ ∧ n = 2 ∧ w.cell? ⟨g, off, none⟩ = some (.pointer (some ⟨b0, 0, none⟩)) ∧ w.cell? ⟨g, off + 1, none⟩ = some (.pointer (some ⟨b1, 0, none⟩)) ∧
  w.cell? ⟨b0, 1, none⟩ = some (.int .i64 x0) ∧ w.cell? ⟨b1, 1, none⟩ = some (.int .i64 x1) ∧ x0 ≤ x1 ∧ g < w.heap.size ∧ b0 < w.heap.size ∧ b1 < w.heap.size
theorem wsins {A : Option Addr} {n c : Nat} {w : World} (h : wsTwo A n w) :
    Calls Try.prog 100 #[.slice A n c, .int .i64 0, .int .i64 (n : Int), .func (.func 46) #[] #[]] w fun e w' => e = .returned (.tuple #[]) ∧ Below w.heap.size w w' := by
  rcases h with h | ⟨g, off, b0, b1, x0, x1, rfl, rfl, h1, h2, h3, h4, h5, h6, h7, h8⟩
  · exact (wsins_one A n c _ w h).mono fun e w' ⟨h1, h2⟩ => ⟨h1, by rw [← h2]; exact Below.refl _ _⟩
  · exact wsins_two h1 h2 h3 h4 h5 h6 h7 h8
set_option maxRecDepth 100000 in
theorem wsstable {A : Option Addr} {n c : Nat} {w : World} (h : wsTwo A n w) :
    Calls Try.prog 68 #[.slice A n c, .int .i64 (n : Int), .func (.func 46) #[] #[]] w fun e w' => e = .returned (.tuple #[]) ∧ Below w.heap.size w w' := by
  have hn : n ≤ 2 := by
    rcases h with h | ⟨g, off, b0, b1, x0, x1, _, h, _⟩ <;> omega
  have d1 : decide (20 ≤ (n : Int)) = false := decide_eq_false (by omega)
  have d2 : decide (20 < (n : Int)) = false := decide_eq_false (by omega)
  have H := Lib.hid h
  clear h hn
  go_enter Try.func68, Try.ntmps68
  go_wp2
  go_loopw [7, 8] (fun y z wr => y = .int .i64 0 ∧ z = .int .i64 20 ∧ wr = w) (fun _ _ _ => 0)
  case atStart => exact ⟨rfl, rfl, rfl⟩
  case round =>
    obtain ⟨rfl, rfl, rfl⟩ := hrel
    go_wp2_with (go_at_call 100; refine (wsins H.out).mono ?_; rintro e w1 ⟨rfl, x1⟩)
    go_loopw [6] (fun y w2 => y = .int .i64 20 ∧ w2 = w1) (fun _ _ => 0)
    case atStart => exact ⟨rfl, rfl⟩
    case round =>
      obtain ⟨rfl, rfl⟩ := hrel
      go_wp2
      exact bodyPost_end (results_none rfl _ _ _) rfl ⟨rfl, x1⟩
theorem wssort {A : Option Addr} {n c : Nat} {w : World} (h : wsTwo A n w) :
    Calls Try.prog 45 #[.slice A n c, .func (.func 46) #[] #[]] w fun e w' => e = .returned (.tuple #[]) ∧ Below w.heap.size w w' := by
  have H := Lib.hid h
  clear h
  go_enter Try.func45, Try.ntmps45
  go_wp2_with (go_at_call 68; refine (wsstable H.out).mono ?_; rintro e w1 ⟨rfl, x1⟩)
  exact bodyPost_end (results_none rfl _ _ _) rfl ⟨rfl, x1⟩
end Go.Proofs.Ytkgbjohadkbjaaa

/-
  Advance of layer 17, where all that is reached is due, and at most two are. Conditions are each theorem's own.
-/
namespace Go.Proofs.Ytkgbjohadkbjaaa
open Go.RowKit Go.Shelf Go.Maps Go.WideMaps
attribute [local go_sem] Oper.semAt_some
theorem wp_delW {o : Oper} {a : Act} {w w' : World} {K : Act → World → Prop} {Q : Exit → Act → World → Prop} {m x : Operand} {t k : TypeId} {b : Nat} {key : Value} (hop : o.op = Op.call { callee := Callee.builtin Builtin.delete, args := #[m, x], argTypes := #[t, k] })
    (hm : a.eval m = .map (some b)) (hx : a.eval x = key) (hrun : (Builtin.delete_ #[t, k] o.type #[.map (some b), key]).run Try.prog w = .ok (.tuple #[]) w') (h : K (a.put o.dst (.tuple #[])) w') : o.wp Try.prog a w K Q := by
  unfold Oper.wp
  simp [execOp, hop, resolve, invoke, builtin, hm, hx, hrun, Result.andThen]
  exact h
theorem info_intW : (Try.prog.info? 3).map (fun i => (i.zero, i.size, i.bytes)) = some (some (.int .i64 0), 1, 8) := by kernel_rfl
theorem append_intW {w : World} {ops : Array Oper} {rest : List Oper} {o : Oper} {a : Act} {Q : Exit → Act → World → Prop} (hgd : o.guard = none) (s x : Operand)
    (ho : o.op = .call { callee := .builtin .append, args := #[s, x], argTypes := #[30, 30] })
    (base : Nat) (v : Value) (n : Nat) (xs : List Value) (hs : a.eval s = v) (hown : w.ownsRow base 3 1 v n xs)
    (g : Nat) (y : Int) (hx : a.eval x = .slice (some ⟨g, 0, none⟩) 1 1) (hy : w.cell? ⟨g, 0, none⟩ = some (.int .i64 y))
    (hlen : n ≤ 1000001) (hbase : base ≤ w.heap.size)
    (h : ∀ v' w', w'.ownsRow base 3 1 v' (n + 1) (xs ++ [.int .i64 y]) → w.grownBy w' v.ownBlock → wpList Try.prog ops Q rest (a.put o.dst v') w') : wpList Try.prog ops Q (o :: rest) a w := by
  obtain ⟨i0, hi, hz0, hz1, hz2⟩ := info_parts info_intW
  refine wpList_append_own w hgd s x 30 ho base 3 i0 (.int .i64 0) 1 8 Try.underlying30 hi hz0 hz1 hz2 rfl (by decide) v n xs hs hown ⟨g, 0, none⟩ 1 1 [.int .i64 y] hx
      rfl (fun j u hu => ?_) (by intro u hu; simp only [List.mem_singleton] at hu; subst hu; rfl) (by unfold maxLen; omega) (by omega) hbase (fun v' w' h1 h2 _ => h v' w' h1 h2)
  have hj : j = 0 := by have := (List.getElem?_eq_some_iff.1 hu).1; simp at this; exact this
  subst hj
  simp only [List.getElem?_cons_zero, Option.some.injEq] at hu
  rw [← hu, add_off]; exact hy
/-- What lies about while those that are due are gone through: j of K are told. -/
structure Da (w0 : World) (B0 d M : Nat) (most : Int) (now : Nat) (K R : List Te) (N j : Nat) (A : Option Addr) (b1 : Nat) (v : Value) (w : World) : Prop where
  T : ∃ T, Wb w d M most (now : Int) T ∧ (∀ e ∈ R, T e.q = some e.b) ∧ (∀ q, (∀ e ∈ R, e.q ≠ q) → T q = none)
  k : ∀ e ∈ K, w.heap[e.b]? = some (.cells (tmC e.id (e.a : Int) none) 87 (0, 0))
  r : ∀ e ∈ R, w.heap[e.b]? = some (.cells (tmC e.id (e.a : Int) (some ⟨d, 2 * e.q, none⟩)) 87 (0, 0)) ∧ e.q < 448 ∧ B0 ≤ e.b
  im : Iw w M N ((K.drop j ++ R).map (·.id))
  rd : RdS clP_ 1 w b1 A K
  own : w.ownsRow b1 76 1 v j ((K.take j).flatMap clP_)
  bel : Below B0 w0 w
  size : b1 ≤ w.heap.size
  lt : d < b1 ∧ M < b1 ∧ (∀ e ∈ K ++ R, e.b < b1)
  z : B0 ≤ d ∧ B0 ≤ M ∧ B0 ≤ b1
section
variable {w0 w w2 w4 : World} {B0 d M N j b1 : Nat} {most : Int} {now : Nat} {K R : List Te} {A : Option Addr} {v v4 : Value} {e : Te}
theorem Da.ne (h : Da w0 B0 d M most now K R N j A b1 v w) : d ≠ M ∧ ∀ e ∈ K ++ R, e.b ≠ M := by
  obtain ⟨T, h1, _⟩ := h.T
  obtain ⟨cs, h2⟩ := h1.is
  obtain ⟨es, clock, h3⟩ := h.im.is
  refine ⟨fun e => (by rw [e, h3] at h2; cases h2), fun e he e2 => ?_⟩
  rcases List.mem_append.1 he with he | he
  · have := h.k e he; rw [e2, h3] at this; cases this
  · have := (h.r e he).1; rw [e2, h3] at this; cases this
theorem Da.ws {E : List Te} (h : Da w0 B0 d M most now K R N j A b1 v w) (hj : j = K.length) (hp : E.Pairwise (fun x y => x.q ≠ y.q ∧ x.b ≠ y.b)) (hE : E = K ++ R) : Ws w B0 d M most now R N := by
  subst hE
  have hi := h.im
  rw [hj, List.drop_length, List.nil_append] at hi
  exact ⟨h.T, hi, h.r, (List.pairwise_append.1 hp).2.1, ⟨h.z.1, h.z.2.1⟩⟩
/-- One more is told. -/
theorem Da.step (h : Da w0 B0 d M most now K R N j A b1 v w) (hj : K[j]? = some e) (hI : Iw w2 M N (((K.drop j ++ R).map (·.id)).erase e.id)) (hg : w.drew.grownBy w2 (some M)) (hb : Below b1 w2 w4)
    (ho : w4.ownsRow b1 76 1 v4 (j + 1) ((K.take j).flatMap clP_ ++ [.pointer (some ⟨e.b, 0, none⟩)])) : Da w0 B0 d M most now K R N (j + 1) A b1 v4 w4 := by
  obtain ⟨hjl, hje⟩ := List.getElem?_eq_some_iff.1 hj
  obtain ⟨l1, l2, l3⟩ := h.lt
  have hne := h.ne
  have k2 : Kept (fun k => k = M) w.drew w2 := (Kept.of_grown hg).mono (T := fun k => k = M) (fun _ _ e => by injection e)
  have hsz : b1 ≤ w.drew.heap.size := h.size
  have keep : ∀ k, k < b1 → k ≠ M → w4.heap[k]? = w.heap[k]? := fun k hk hn => (hb.block k hk).trans (k2.block k (by omega) hn)
  have hdrop : K.drop j = e :: K.drop (j + 1) := by rw [List.drop_eq_getElem_cons hjl, hje]
  obtain ⟨T, t1, t2, t3⟩ := h.T
  refine ⟨⟨T, t1.of_block (keep d l1 hne.1), t2, t3⟩, fun x hx => (keep x.b (l3 x (by simp [hx])) (hne.2 x (by simp [hx]))).trans (h.k x hx), fun x hx => ⟨(keep x.b (l3 x (by simp [hx])) (hne.2 x (by simp [hx]))).trans (h.r x hx).1, (h.r x hx).2⟩, ?_, ?_, ?_, ?_, ?_, h.lt, h.z⟩
  · have := hI.of_block (hb.block M l2)
    rw [hdrop, List.cons_append, List.map_cons, List.erase_cons_head] at this
    exact this
  · intro hn
    obtain ⟨g, off, e1, hg1, hc⟩ := h.rd hn
    have hgM : g ≠ M := by
      intro e2
      have c0 := hc 0 K[0] (List.getElem?_eq_getElem hn) 0 _ rfl
      obtain ⟨o, ho2, hcs⟩ := cells_of_cell c0
      obtain ⟨es, clock, h3⟩ := h.im.is
      have ho3 : w.heap[g]? = some o := ho2
      rw [e2, h3] at ho3; cases ho3; simp [Obj.isCells] at hcs
    exact ⟨g, off, e1, hg1, fun i x hx k v hv => (World.cell?_of_block (w := w) (keep g hg1 hgM)).trans (hc i x hx k v hv)⟩
  · have e1 : K.take (j + 1) = K.take j ++ [e] := by rw [List.take_add_one, hj]; rfl
    rw [e1, List.flatMap_append]
    exact ho
  · exact (h.bel.drew).trans ((k2.below (by have := h.bel.size; have := h.z.2.2; omega) (fun i hi => by rw [hi]; exact h.z.2.1)).trans (hb.mono (by have := h.z.2.2; omega)))
  · have h1 := k2.size
    have h2 := hb.size
    omega
set_option maxRecDepth 100000 in
set_option maxHeartbeats 4000000 in
theorem wadv_due {E : List Te} {now0 : Nat} (h : Ws w B0 d M most now0 E N) (hs : E.Pairwise (fun x y => x.q < y.q)) (hEl : E.length ≤ 1000) (hEa : ∀ e ∈ E, e.a ≤ 2 ^ 40) (now : Nat) (hn0 : now0 ≤ now) (hn1 : now ≤ 2 ^ 40)
    (hdue : ∀ e ∈ E.takeWhile (tkN now), e.a ≤ now) (hsrt : (E.takeWhile (tkN now)).Pairwise (fun x y => x.a ≤ y.a)) (hle : (E.takeWhile (tkN now)).length ≤ 2) :
    Calls Try.prog 14 #[.pointer (some ⟨d, 0, none⟩), .int .i64 (now : Int)] w fun e w' => ∃ v, e = .returned v ∧ w'.ownsRow w.heap.size 3 1 v (E.takeWhile (tkN now)).length ((E.takeWhile (tkN now)).map fun e => Value.int .i64 e.id) ∧
      Ws w' B0 d M most now (E.dropWhile (tkN now)) N ∧ Below B0 w w' := by
  have HRE := Lib.hid (wreached h hs hEl hEa (now := now))
  obtain ⟨K, hK⟩ : ∃ K, K = E.takeWhile (tkN now) := ⟨_, rfl⟩
  obtain ⟨R, hR⟩ : ∃ R, R = E.dropWhile (tkN now) := ⟨_, rfl⟩
  rw [← hK] at hdue hsrt hle HRE ⊢
  rw [← hR] at HRE ⊢
  have hmi : max (now : Int) (now0 : Int) = (now : Int) := by omega
  have hmn : min (now : Int) 1099511627776 = (now : Int) := by omega
  obtain ⟨T, hwb, hx1, hx2⟩ := h.T
  have kn := hwb.cn
  have HM := Lib.hid (wmade hwb)
  have H := Lib.hid h
  have HDU := Lib.hid hdue
  have HSR := Lib.hid hsrt
  clear hK hR h hs hEl hEa hn0 hn1 hdue hsrt hwb hx1 hx2 T
  go_enter Try.func14, Try.ntmps14
  go_upto_region 4 with (first
    | (go_at_call 40; refine HM.out.mono ?_; rintro e w1 ⟨rfl, rfl⟩))
  clear kn
  go_upto_region 5 with (first
    | (go_at_call 44; refine HRE.out.mono ?_; rintro e w1 ⟨A1, c1, rfl, hsc⟩))
  obtain ⟨T, hT1, hT2, hT3⟩ := hsc.T
  have ff := hT1.fr 898
  have kn1 := hT1.cn
  have HSC := Lib.hid hsc
  have HT := Lib.hid (And.intro hT1 (And.intro hT2 hT3))
  clear hT1 hT2 hT3 hsc HRE HM
  go_upto_region 6 with fail
  have hEq := HSC.out.e
  have hne : ∀ e ∈ K ++ R, e.b ≠ d := fun e he => (H.out.neT (by rw [hEq]; exact he)).1
  obtain ⟨V, hV⟩ : ∃ V, V = w1.setCell ⟨d, 898, none⟩ (.int .i64 (now : Int)) := ⟨_, rfl⟩
  have kd : Kept (fun k => k = d) w1 V := by rw [hV]; exact Kept.setCell w1 d 898 _
  have hwt : Wb V d M most (now : Int) T := by rw [hV]; exact HT.out.1.time _
  have hzV := kd.size
  have hzw := HSC.out.size
  have hlt : ∀ e ∈ K ++ R, e.b < w.heap.size := fun e he => heap_lt (H.out.tm e (by rw [hEq]; exact he)).1
  have hdw : d < w.heap.size := by obtain ⟨T0, h9, _⟩ := H.out.T; exact h9.lt
  have hMw := H.out.im.lt
  have hbz := H.out.bz
  obtain ⟨A, c, ev, hrd, hcap⟩ := own_rds (cl := clP_) (sz := 1) (l := K) (own_keptT HSC.out.own kd (fun g hg cs fr hh => by
    subst hg
    obtain ⟨cs2, h2⟩ := HT.out.1.is
    rw [h2] at hh
    injection hh with hh
    injection hh with _ e2 _
    exact absurd e2 (nat_ne (by kernel_rfl)))) rfl rfl (fun _ _ => rfl)
  injection ev with ev1 ev2 ev3
  subst ev1
  subst ev3
  have hDa : Da w B0 d M most now K R N 0 A1 V.heap.size (.slice none 0 0) V := ⟨⟨T, hwt, HT.out.2.1, HT.out.2.2⟩, fun e he => (kd.block e.b (by have := hlt e (by simp [he]); omega) (hne e (by simp [he]))).trans (HSC.out.k e he),
    fun e he => ⟨(kd.block e.b (by have := hlt e (by simp [he]); omega) (hne e (by simp [he]))).trans (HSC.out.r e he), (H.out.tm e (by rw [hEq]; simp [he])).2⟩,
    by rw [List.drop_zero, ← hEq]; exact HSC.out.im.of_block (kd.block M (by omega) (fun e => H.out.ne e.symm)), hrd, World.ownsRow_nil _ _ _ _,
    HSC.out.bel.trans (kd.below (by omega) (fun i hi => by rw [hi]; exact H.out.z.1)), Nat.le_refl _, ⟨by omega, by omega, fun e he => by have := hlt e he; omega⟩, ⟨H.out.z.1, H.out.z.2, by omega⟩⟩
  have HDA := Lib.hid hDa
  clear hwt kd hrd hDa hlt hne hEq ff kn1
  rw [← hV]
  have hzB : w.heap.size ≤ V.heap.size := by omega
  clear hV hzV hzw
  obtain ⟨n, hn⟩ : ∃ n, n = K.length := ⟨_, rfl⟩
  rw [← hn] at hle hcap ⊢
  have HN := Lib.hid hn
  clear hn
  go_wp2
  go_loopw [33, 6] (fun z v wr => ∃ j vv, j ≤ n ∧ z = .int .i64 (j : Int) ∧ vv = v ∧ Hid (Da w B0 d M most now K R N j A1 V.heap.size vv wr)) (fun z _ _ => n - (intOf z).toNat)
  case atStart => exact ⟨0, _, Nat.zero_le _, rfl, rfl, HDA⟩
  case round =>
    clear HDA
    obtain ⟨j, v5, hj, rfl, rfl, HDA⟩ := hrel
    by_cases hjn : j < n
    · have d1 : decide ((j : Int) < (n : Int)) = true := decide_eq_true (by omega)
      obtain ⟨e, he⟩ : ∃ e, K[j]? = some e := ⟨_, List.getElem?_eq_getElem (by rw [← HN.out]; exact hjn)⟩
      obtain ⟨g, off, rfl, hgV, hrg⟩ := HDA.out.rd (by rw [← HN.out]; omega)
      have kp : wr.cell? ⟨g, off + j, none⟩ = some (.pointer (some ⟨e.b, 0, none⟩)) := by
        have := hrg j e he 0 _ rfl
        rw [Nat.mul_one, Nat.add_zero] at this
        exact this
      have heK := List.mem_of_getElem? he
      have hte := HDA.out.k e heK
      have ka : wr.cell? ⟨e.b, 1, none⟩ = some (.int .i64 (e.a : Int)) := cells_at hte rfl
      have d2 : decide ((now : Int) < (e.a : Int)) = false := decide_eq_false (by have := HDU.out e heK; omega)
      have d3 : decide (now < e.a) = false := decide_eq_false (by have := HDU.out e heK; omega)
      go_upto_region 12 with fail
      obtain ⟨T5, hT5, hx1, hx2⟩ := HDA.out.T
      have hI := HDA.out.im.of_block (w' := wr.drew) rfl
      obtain ⟨w2, hdr, hI2, hgr2⟩ := hI.drop (x := e.id) (List.mem_map_of_mem (f := Te.id) (List.mem_append_left _ (List.mem_of_getElem? (by rw [List.getElem?_drop, Nat.add_zero]; exact he)))) 0
      have HDR := Lib.hid hdr
      have hne := HDA.out.ne
      have k2 : Kept (fun k => k = M) wr.drew w2 := (Kept.of_grown hgr2).mono (T := fun k => k = M) (fun _ _ e => by injection e)
      have hsz := HDA.out.size
      obtain ⟨l1, l2, l3⟩ := HDA.out.lt
      have hs1 : wr.drew.cell? ⟨d, 896, none⟩ = some (.map (some M)) ∧ wr.drew.cell? ⟨e.b, 0, none⟩ = some (.int .i64 e.id) := ⟨hT5.cm, cells_at hte rfl⟩
      have hdz : d < wr.drew.heap.size := Nat.lt_of_lt_of_le l1 hsz
      have hez : e.b < wr.drew.heap.size := Nat.lt_of_lt_of_le (l3 e (by simp [heK])) hsz
      have HS2 : Hid (w2.cell? ⟨d, 896, none⟩ = some (.map (some M)) ∧ w2.cell? ⟨e.b, 0, none⟩ = some (.int .i64 e.id)) := Lib.hid
        ⟨(World.cell?_of_block (w := wr.drew) (a := ⟨d, 896, none⟩) (k2.block d hdz hne.1)).trans hs1.1, (World.cell?_of_block (w := wr.drew) (a := ⟨e.b, 0, none⟩) (k2.block e.b hez (hne.2 e (by simp [heK])))).trans hs1.2⟩
      have HI2 := Lib.hid (And.intro hI2 hgr2)
      have hov : w2.ownsRow V.heap.size 76 1 v5 j ((K.take j).flatMap clP_) := own_keptT ((HDA.out.own).drew) k2 (fun g' hg' cs fr hh => by
        subst hg'
        obtain ⟨es, clock, h3⟩ := hI.is
        rw [h3] at hh; cases hh)
      have hz2 : V.heap.size ≤ w2.heap.size := Nat.le_trans hsz k2.size
      have HOV := Lib.hid hov
      have HHE := Lib.hid he
      clear hx1 hx2 hov hT5 hdr hI hne k2 l1 l2 l3 hdz hez hI2 hgr2 kp hrg hgV he ka hte T5
      refine wp_region_held_drew (S := fun w' => w'.cell? ⟨d, 896, none⟩ = some (.map (some M)) ∧ w'.cell? ⟨e.b, 0, none⟩ = some (.int .i64 e.id)) (by kernel_rfl) hs1 (fun hS => ?_)
      clear hs1
      refine held_pure (i := 0) (oi := ⟨some 54, _, _, _, _, _⟩) rfl (by kernel_rfl) (by kernel_rfl) (by kernel_rfl) (fun _ _ _ h => h) (by rfl) (v := ?_) (fun w hSw => ?_) hS (fun hS => ?_)
      rotate_left
      · go_simp; try with_reducible rfl
      try go_frame
      refine held_pure (i := 1) (oi := ⟨some 55, _, _, _, _, _⟩) rfl (by kernel_rfl) (by kernel_rfl) (by kernel_rfl) (fun _ _ _ h => h) (by rfl) (v := ?_) (fun w hSw => ?_) hS (fun hS => ?_)
      rotate_left
      · go_simp; try with_reducible rfl
      try go_frame
      refine held_pure (i := 2) (oi := ⟨some 56, _, _, _, _, _⟩) rfl (by kernel_rfl) (by kernel_rfl) (by kernel_rfl) (fun _ _ _ h => h) (by rfl) (v := ?_) (fun w hSw => ?_) hS (fun hS => ?_)
      rotate_left
      · go_simp; try with_reducible rfl
      try go_frame
      refine held_pure (i := 3) (oi := ⟨some 57, _, _, _, _, _⟩) rfl (by kernel_rfl) (by kernel_rfl) (by kernel_rfl) (fun _ _ _ h => h) (by rfl) (fun w hSw => run_load_mpW rfl rfl hSw.1) hS (fun hS => ?_)
      try go_frame
      refine held_pure (i := 4) (oi := ⟨some 58, _, _, _, _, _⟩) rfl (by kernel_rfl) (by kernel_rfl) (by kernel_rfl) (fun _ _ _ h => h) (by rfl) (v := ?_) (fun w hSw => ?_) hS (fun hS => ?_)
      rotate_left
      · go_simp; try with_reducible rfl
      try go_frame
      refine held_pure (i := 5) (oi := ⟨some 59, _, _, _, _, _⟩) rfl (by kernel_rfl) (by kernel_rfl) (by kernel_rfl) (fun _ _ _ h => h) (by rfl) (v := ?_) (fun w hSw => ?_) hS (fun hS => ?_)
      rotate_left
      · go_simp; try with_reducible rfl
      try go_frame
      refine held_pure (i := 6) (oi := ⟨some 60, _, _, _, _, _⟩) rfl (by kernel_rfl) (by kernel_rfl) (by kernel_rfl) (fun _ _ _ h => h) (by rfl) (v := ?_) (fun w hSw => ?_) hS (fun hS => ?_)
      rotate_left
      · go_simp; try with_reducible rfl
      try go_frame
      refine held_pure (i := 7) (oi := ⟨some 61, _, _, _, _, _⟩) rfl (by kernel_rfl) (by kernel_rfl) (by kernel_rfl) (fun _ _ _ h => h) (by rfl) (fun w hSw => run_load_int rfl rfl hSw.2) hS (fun hS => ?_)
      try go_frame
      refine wpAnyH_ready (rs := [8]) (by kernel_rfl) (by simp) (AllReadyH.cons (o := ⟨none, _, _, _, _, _⟩) rfl (fun K hK => ?_) AllReadyH.nil)
      rw [if_pos (by rfl)]
      refine wp_delW (w' := w2) rfl rfl rfl HDR.out ?_
      refine hK.out _ _ HS2.out (fun hS => ?_)
      clear hK K
      try go_frame
      refine wpAnyH_done (by kernel_rfl) ?_ _
      have hov := HOV.out
      obtain ⟨W3, hW3⟩ : ∃ W3, W3 = w2.alloc (.cells #[.pointer (some ⟨e.b, 0, none⟩)] 76) := ⟨_, rfl⟩
      have HW3 := Lib.hid hW3
      have b3 : Below w2.heap.size w2 W3 := by rw [hW3]; exact (Below.refl _ w2).alloc (Nat.le_refl _) _
      have hcy : W3.cell? ⟨w2.heap.size, 0, none⟩ = some (.pointer (some ⟨e.b, 0, none⟩)) := by rw [hW3]; exact cells_at (i := 0) (World.alloc_heap_new w2 _) rfl
      have hov3 : W3.ownsRow V.heap.size 76 1 v5 j ((K.take j).flatMap clP_) := own_below hov b3
      have hz3 : V.heap.size ≤ W3.heap.size := Nat.le_trans hz2 b3.size
      have HB3 := Lib.hid (b3.mono hz2)
      clear hov hW3 b3
      go_wp2_with (at_builtin; rw [← HW3.out]; refine append_ptW rfl _ _ rfl V.heap.size v5 j ((K.take j).flatMap clP_) rfl hov3 w2.heap.size (some ⟨e.b, 0, none⟩) rfl hcy (by omega) hz3 ?_; intro v4 w4 hown4 hgrow; have b4 := HB3.out.grown hgrow hz3 (fun k hk => own_block_ge hov3 k hk); have HST := Lib.hid (HDA.out.step HHE.out HI2.out.1 HI2.out.2 b4 hown4); clear hown4 hgrow b4)
      go_roundw
      case rel => exact ⟨j + 1, v4, by omega, by simp, rfl, HST⟩
      case measure => simp [intOf]; omega
    · obtain rfl : j = n := by omega
      have d1 : decide ((j : Int) < (j : Int)) = false := decide_eq_false (by omega)
      obtain ⟨A5, c5, ev, hrd5, hcap5⟩ := own_rds (cl := clP_) (sz := 1) (l := K) HDA.out.own HN.out (by rw [HN.out, List.take_length]) (fun _ _ => rfl)
      have HWS := Lib.hid (HDA.out.ws (HN.out) H.out.pw HSC.out.e)
      rw [← HN.out] at ev hcap5
      subst ev
      have hzr := HDA.out.size
      have hbr := HDA.out.bel
      have hkr := HDA.out.k
      have htm : ∀ e ∈ K, wr.cell? ⟨e.b, 0, none⟩ = some (.int .i64 e.id) ∧ wr.cell? ⟨e.b, 1, none⟩ = some (.int .i64 (e.a : Int)) ∧ e.b < wr.heap.size := fun e he => ⟨cells_at (hkr e he) rfl, cells_at (hkr e he) rfl, heap_lt (hkr e he)⟩
      have HTM := Lib.hid htm
      have HTW : Hid (wsTwo A5 j wr) := Lib.hid (by
        rcases Nat.lt_or_ge j 2 with h9 | h9
        · exact .inl (by omega)
        · obtain rfl : j = 2 := by omega
          have hK2 := HN.out
          obtain ⟨x, y, hxy⟩ : ∃ x y, K = [x, y] := by
            match K, hK2 with
            | [x, y], _ => exact ⟨x, y, rfl⟩
          have hs9 := HSR.out
          rw [hxy] at hrd5 hs9 htm
          obtain ⟨g5, o5, e5, hg5, hr5⟩ := hrd5 (by simp)
          have r0 := hr5 0 x rfl 0 _ rfl
          have r1 := hr5 1 y rfl 0 _ rfl
          have hxa := List.pairwise_cons.1 hs9
          exact .inr ⟨g5, o5, x.b, y.b, (x.a : Int), (y.a : Int), e5, rfl, r0, r1, (htm x (by simp)).2.1, (htm y (by simp)).2.1, by have := hxa.1 y (by simp); omega, hg5, (htm x (by simp)).2.2, (htm y (by simp)).2.2⟩)
      have HRD := Lib.hid hrd5
      clear htm hkr hrd5 HDA
      go_upto_region 16 with (go_at_call 45; refine (wssort HTW.out).mono ?_; rintro e w6 ⟨rfl, x6⟩)
      have hz6 := x6.size
      have HX6 := Lib.hid x6
      go_wp2
      go_loopw [71, 9] (fun z v wq => ∃ i vv, i ≤ j ∧ z = .int .i64 (i : Int) ∧ vv = v ∧ Hid (wq.ownsRow w6.heap.size 3 1 vv i ((K.take i).map fun e => Value.int .i64 e.id)) ∧ Hid (Below w6.heap.size w6 wq)) (fun z _ _ => j - (intOf z).toNat)
      case atStart => exact ⟨0, _, Nat.zero_le _, rfl, rfl, Lib.hid (World.ownsRow_nil _ _ _ _), Lib.hid (Below.refl _ _)⟩
      case round =>
        obtain ⟨i, v7, hi, rfl, rfl, HOW, HBQ⟩ := hrel
        have hzq := HBQ.out.size
        by_cases hij : i < j
        · have d4 : decide ((i : Int) < (j : Int)) = true := decide_eq_true (by omega)
          obtain ⟨e, he⟩ : ∃ e, K[i]? = some e := ⟨_, List.getElem?_eq_getElem (by rw [← HN.out]; exact hij)⟩
          obtain ⟨g5, o5, rfl, hg5, hr5⟩ := HRD.out (by rw [← HN.out]; omega)
          have hb9 := x6.trans (HBQ.out.mono hz6)
          have kp : wr.cell? ⟨g5, o5 + i, none⟩ = some (.pointer (some ⟨e.b, 0, none⟩)) := by
            have := hr5 i e he 0 _ rfl
            rw [Nat.mul_one, Nat.add_zero] at this
            exact (hb9.cell (p := ⟨g5, o5 + i, none⟩) hg5).trans this
          have hte := HTM.out e (List.mem_of_getElem? he)
          have ki : wr.cell? ⟨e.b, 0, none⟩ = some (.int .i64 e.id) := (hb9.cell (p := ⟨e.b, 0, none⟩) hte.2.2).trans hte.1
          have hov := HOW.out
          obtain ⟨W3, hW3⟩ : ∃ W3, W3 = wr.alloc (.cells #[.int .i64 e.id] 3) := ⟨_, rfl⟩
          have HW3 := Lib.hid hW3
          have b3 : Below wr.heap.size wr W3 := by rw [hW3]; exact (Below.refl _ wr).alloc (Nat.le_refl _) _
          have hcy : W3.cell? ⟨wr.heap.size, 0, none⟩ = some (.int .i64 e.id) := by rw [hW3]; exact cells_at (i := 0) (World.alloc_heap_new wr _) rfl
          have hov3 : W3.ownsRow w6.heap.size 3 1 v7 i ((K.take i).map fun e => Value.int .i64 e.id) := own_below hov b3
          have hz3 : w6.heap.size ≤ W3.heap.size := Nat.le_trans hzq b3.size
          have HB3 := Lib.hid (HBQ.out.trans (b3.mono hzq))
          have HHE := Lib.hid he
          clear hov hW3 b3 hb9 hte hr5 hg5 he
          go_wp2_with (at_builtin; rw [← HW3.out]; refine append_intW rfl _ _ rfl w6.heap.size v7 i ((K.take i).map fun e => Value.int .i64 e.id) rfl hov3 wr.heap.size e.id rfl hcy (by omega) hz3 ?_; intro v8 w8 hown8 hgrow; have HB8 := Lib.hid (HB3.out.grown hgrow hz3 (fun k hk => own_block_ge hov3 k hk)); have HO8 := Lib.hid hown8; clear hown8 hgrow)
          go_roundw
          case rel => exact ⟨i + 1, v8, by omega, by simp, rfl, Lib.hid (by rw [List.take_add_one, HHE.out, List.map_append]; exact HO8.out), HB8⟩
          case measure => simp [intOf]; omega
        · obtain rfl : i = j := by omega
          have d4 : decide ((i : Int) < (i : Int)) = false := decide_eq_false (by omega)
          go_wp2
          try rw [Exit.noGoto_ret]
          refine bodyPost_ret (results_tmp rfl _ _ _) rfl ?_
          have hb9 := x6.trans (HBQ.out.mono hz6)
          have hzz := Nat.le_trans hzB hzr
          have ho := HOW.out
          rw [show K.take i = K by rw [HN.out, List.take_length]] at ho
          rw [← HN.out]
          exact ⟨_, rfl, own_base ho (by omega), HWS.out.below hb9, hbr.trans (hb9.mono (Nat.le_trans hbz hzz))⟩
end
end Go.Proofs.Ytkgbjohadkbjaaa

/-
  Advance of layer 17, where one timer is reached that is not due yet: it stands in another slot. Conditions are each theorem's own.
-/
namespace Go.Proofs.Ytkgbjohadkbjaaa
open Go.RowKit Go.Shelf Go.Maps Go.WideMaps
section
variable {w : World} {B0 d M N : Nat} {most : Int}
set_option maxRecDepth 100000 in
set_option maxHeartbeats 4000000 in
theorem wadv_stay {E : List Te} {e0 : Te} {now0 : Nat} (h : Ws w B0 d M most now0 E N) (hs : E.Pairwise (fun x y => x.q < y.q)) (hEl : E.length ≤ 1000) (hEa : ∀ e ∈ E, e.a ≤ 2 ^ 40) (now : Nat) (hn0 : now0 ≤ now) (hn1 : now ≤ 2 ^ 40)
    (hKe : E.takeWhile (tkN now) = [e0]) (ha : now < e0.a) (hq : ∀ r ∈ E.dropWhile (tkN now), r.q ≠ slotN e0.a now) :
    Calls Try.prog 14 #[.pointer (some ⟨d, 0, none⟩), .int .i64 (now : Int)] w fun e w' => e = .returned (.slice none 0 0) ∧
      Ws w' B0 d M most now (⟨slotN e0.a now, e0.b, e0.id, e0.a⟩ :: E.dropWhile (tkN now)) N ∧ Below B0 w w' ∧ w.heap.size ≤ w'.heap.size := by
  have HRE := Lib.hid (wreached h hs hEl hEa (now := now))
  obtain ⟨K, hK⟩ : ∃ K, K = E.takeWhile (tkN now) := ⟨_, rfl⟩
  obtain ⟨R, hR⟩ : ∃ R, R = E.dropWhile (tkN now) := ⟨_, rfl⟩
  rw [← hK] at hKe HRE
  rw [← hR] at hq HRE ⊢
  have hmi : max (now : Int) (now0 : Int) = (now : Int) := by omega
  have hmn : min (now : Int) 1099511627776 = (now : Int) := by omega
  obtain ⟨T, hwb, hx1, hx2⟩ := h.T
  have kn := hwb.cn
  have HM := Lib.hid (wmade hwb)
  have H := Lib.hid h
  have HKE := Lib.hid hKe
  have HQ := Lib.hid hq
  have HAA := Lib.hid (And.intro ha (And.intro hn1 (hEa e0 (List.takeWhile_subset _ (by rw [← hK, hKe]; simp)))))
  clear hK hR h hs hEl hEa hn0 hn1 hKe hq ha hwb hx1 hx2 T
  go_enter Try.func14, Try.ntmps14
  go_upto_region 4 with (first
    | (go_at_call 40; refine HM.out.mono ?_; rintro e w1 ⟨rfl, rfl⟩))
  clear kn
  go_upto_region 5 with (first
    | (go_at_call 44; refine HRE.out.mono ?_; rintro e w1 ⟨A1, c1, rfl, hsc⟩))
  obtain ⟨T, hT1, hT2, hT3⟩ := hsc.T
  have ff := hT1.fr 898
  have kn1 := hT1.cn
  have HSC := Lib.hid hsc
  have HT := Lib.hid (And.intro hT1 (And.intro hT2 hT3))
  clear hT1 hT2 hT3 hsc HRE HM
  go_upto_region 6 with fail
  have hEq := HSC.out.e
  have hne : ∀ e ∈ K ++ R, e.b ≠ d := fun e he => (H.out.neT (by rw [hEq]; exact he)).1
  obtain ⟨V, hV⟩ : ∃ V, V = w1.setCell ⟨d, 898, none⟩ (.int .i64 (now : Int)) := ⟨_, rfl⟩
  have kd : Kept (fun k => k = d) w1 V := by rw [hV]; exact Kept.setCell w1 d 898 _
  have hwt : Wb V d M most (now : Int) T := by rw [hV]; exact HT.out.1.time _
  have hzV := kd.size
  have hzw := HSC.out.size
  have hlt : ∀ e ∈ K ++ R, e.b < w.heap.size := fun e he => heap_lt (H.out.tm e (by rw [hEq]; exact he)).1
  have hdw : d < w.heap.size := by obtain ⟨T0, h9, _⟩ := H.out.T; exact h9.lt
  have hMw := H.out.im.lt
  have hbz := H.out.bz
  obtain ⟨A, c, ev, hrd, hcap⟩ := own_rds (cl := clP_) (sz := 1) (l := K) (own_keptT HSC.out.own kd (fun g hg cs fr hh => by
    subst hg
    obtain ⟨cs2, h2⟩ := HT.out.1.is
    rw [h2] at hh
    injection hh with hh
    injection hh with _ e2 _
    exact absurd e2 (nat_ne (by kernel_rfl)))) rfl rfl (fun _ _ => rfl)
  injection ev with ev1 ev2 ev3
  subst ev1
  subst ev3
  have hDa : Da w B0 d M most now K R N 0 A1 V.heap.size (.slice none 0 0) V := ⟨⟨T, hwt, HT.out.2.1, HT.out.2.2⟩, fun e he => (kd.block e.b (by have := hlt e (by simp [he]); omega) (hne e (by simp [he]))).trans (HSC.out.k e he),
    fun e he => ⟨(kd.block e.b (by have := hlt e (by simp [he]); omega) (hne e (by simp [he]))).trans (HSC.out.r e he), (H.out.tm e (by rw [hEq]; simp [he])).2⟩,
    by rw [List.drop_zero, ← hEq]; exact HSC.out.im.of_block (kd.block M (by omega) (fun e => H.out.ne e.symm)), hrd, World.ownsRow_nil _ _ _ _,
    HSC.out.bel.trans (kd.below (by omega) (fun i hi => by rw [hi]; exact H.out.z.1)), Nat.le_refl _, ⟨by omega, by omega, fun e he => by have := hlt e he; omega⟩, ⟨H.out.z.1, H.out.z.2, by omega⟩⟩
  have HDA := Lib.hid hDa
  clear hwt kd hrd hDa hlt hne hEq ff kn1
  rw [← hV]
  have hzB : w.heap.size ≤ V.heap.size := by omega
  clear hV hzV hzw
  obtain ⟨n, hn⟩ : ∃ n, n = K.length := ⟨_, rfl⟩
  have hn1 : n = 1 := by rw [hn, HKE.out]; rfl
  rw [← hn] at hcap ⊢
  subst hn1
  clear hn
  go_wp2
  go_loopw [33, 6] (fun z v wr => v = .slice none 0 0 ∧ ((z = .int .i64 0 ∧ wr = V) ∨ (z = .int .i64 1 ∧ Hid (Ws wr B0 d M most now (⟨slotN e0.a now, e0.b, e0.id, e0.a⟩ :: R) N) ∧ Hid (Below B0 w wr ∧ w.heap.size ≤ wr.heap.size)))) (fun z _ _ => 1 - (intOf z).toNat)
  case atStart => exact ⟨rfl, .inl ⟨rfl, rfl⟩⟩
  case round =>
    obtain ⟨rfl, ⟨rfl, hwV⟩ | ⟨rfl, HWS, HBW⟩⟩ := hrel
    · have hwV := hwV.symm
      subst hwV
      have HDA := HDA
      have hKE := HKE.out
      subst hKE
      obtain ⟨g, off, rfl, hgV, hrg⟩ := HDA.out.rd (by simp)
      have kp : V.cell? ⟨g, off, none⟩ = some (.pointer (some ⟨e0.b, 0, none⟩)) := hrg 0 e0 rfl 0 _ rfl
      have hte := HDA.out.k e0 (by simp)
      have ka : V.cell? ⟨e0.b, 1, none⟩ = some (.int .i64 (e0.a : Int)) := cells_at hte rfl
      have d2 : decide ((now : Int) < (e0.a : Int)) = true := decide_eq_true (by have := HAA.out.1; omega)
      have d3 : decide (now < e0.a) = true := decide_eq_true HAA.out.1
      go_upto_region 11 with fail
      obtain ⟨T5, hT5, hx1, hx2⟩ := HDA.out.T
      have HTN : Hid (T5 (slotN e0.a now) = none) := Lib.hid (hx2 _ HQ.out)
      have HSQ : Hid (slotN e0.a now < 448) := Lib.hid (slot_lt HAA.out.2.2 HAA.out.2.1).2
      have HWV := Lib.hid hT5
      have HTE : Hid (V.drew.drew.heap[e0.b]? = some (.cells (tmC e0.id (e0.a : Int) none) 87 (0, 0))) := Lib.hid hte
      have HX := Lib.hid (And.intro hx1 hx2)
      have hsV : V.drew.cell? ⟨e0.b, 1, none⟩ = some (.int .i64 (e0.a : Int)) := ka
      clear hT5 hx1 hx2 kp hte ka hrg
      refine wp_region_held_drew (S := fun V' => V'.cell? ⟨e0.b, 1, none⟩ = some (.int .i64 (e0.a : Int))) (by kernel_rfl) hsV (fun hS => ?_)
      refine held_pure (i := 0) (oi := ⟨some 43, _, _, _, _, _⟩) rfl (by kernel_rfl) (by kernel_rfl) (by kernel_rfl) (fun _ _ _ h => h) (by rfl) (v := ?_) (fun w hSw => ?_) hS (fun hS => ?_)
      rotate_left
      · go_simp; try with_reducible rfl
      try go_frame
      refine held_pure (i := 1) (oi := ⟨some 44, _, _, _, _, _⟩) rfl (by kernel_rfl) (by kernel_rfl) (by kernel_rfl) (fun _ _ _ h => h) (by rfl) (v := ?_) (fun w hSw => ?_) hS (fun hS => ?_)
      rotate_left
      · go_simp; try with_reducible rfl
      try go_frame
      refine held_pure (i := 2) (oi := ⟨some 45, _, _, _, _, _⟩) rfl (by kernel_rfl) (by kernel_rfl) (by kernel_rfl) (fun _ _ _ h => h) (by rfl) (v := ?_) (fun w hSw => ?_) hS (fun hS => ?_)
      rotate_left
      · go_simp; try with_reducible rfl
      try go_frame
      refine held_pure (i := 3) (oi := ⟨some 46, _, _, _, _, _⟩) rfl (by kernel_rfl) (by kernel_rfl) (by kernel_rfl) (fun _ _ _ h => h) (by rfl) (v := ?_) (fun w hSw => ?_) hS (fun hS => ?_)
      rotate_left
      · go_simp; try with_reducible rfl
      try go_frame
      refine held_pure (i := 4) (oi := ⟨some 47, _, _, _, _, _⟩) rfl (by kernel_rfl) (by kernel_rfl) (by kernel_rfl) (fun _ _ _ h => h) (by rfl) (v := ?_) (fun w hSw => ?_) hS (fun hS => ?_)
      rotate_left
      · go_simp; try with_reducible rfl
      try go_frame
      refine held_pure (i := 5) (oi := ⟨some 48, _, _, _, _, _⟩) rfl (by kernel_rfl) (by kernel_rfl) (by kernel_rfl) (fun _ _ _ h => h) (by rfl) (v := ?_) (fun w hSw => ?_) hS (fun hS => ?_)
      rotate_left
      · go_simp; try with_reducible rfl
      try go_frame
      refine held_pure (i := 6) (oi := ⟨some 49, _, _, _, _, _⟩) rfl (by kernel_rfl) (by kernel_rfl) (by kernel_rfl) (fun _ _ _ h => h) (by rfl) (v := ?_) (fun w hSw => ?_) hS (fun hS => ?_)
      rotate_left
      · go_simp; try with_reducible rfl
      try go_frame
      refine held_pure (i := 7) (oi := ⟨some 50, _, _, _, _, _⟩) rfl (by kernel_rfl) (by kernel_rfl) (by kernel_rfl) (fun _ _ _ h => h) (by rfl) (fun w hSw => run_load_int rfl rfl hSw) hS (fun hS => ?_)
      try go_frame
      refine held_pure (i := 8) (oi := ⟨some 51, _, _, _, _, _⟩) rfl (by kernel_rfl) (by kernel_rfl) (by kernel_rfl) (fun _ _ _ h => h) (by rfl) (v := ?_) (fun w hSw => ?_) hS (fun hS => ?_)
      rotate_left
      · go_simp; try with_reducible rfl
      try go_frame
      refine wpAnyH_ready (rs := [9]) (by kernel_rfl) (by simp) (AllReadyH.cons (o := ⟨some 52, _, _, _, _, _⟩) rfl (fun K hK => ?_) AllReadyH.nil)
      rw [if_pos (by rfl)]
      go_simp
      refine (wslot d e0.a now V.drew HAA.out.2.2 HAA.out.2.1).mono ?_
      rintro e y1 ⟨rfl, rfl⟩
      show K _ _
      refine hK.out _ _ hS (fun hS => ?_)
      clear hK K
      try go_frame
      refine wpAnyH_ready (rs := [10]) (by kernel_rfl) (by simp) (AllReadyH.cons (o := ⟨some 53, _, _, _, _, _⟩) rfl (fun K hK => ?_) AllReadyH.nil)
      rw [if_pos (by rfl)]
      go_simp
      refine (wstand (w := V.drew.drew) (q := slotN e0.a now) (b := e0.b) (id := e0.id) (at_ := (e0.a : Int)) (HWV.out.of_block rfl) HSQ.out HTN.out HTE.out).mono ?_
      rintro e y2 ⟨rfl, hw2, hb2, hk2⟩
      have hS2 : y2.cell? ⟨e0.b, 1, none⟩ = some (.int .i64 (e0.a : Int)) := cells_at hb2 rfl
      have HW2 := Lib.hid hw2
      have HB2 := Lib.hid hb2
      have HK2 := Lib.hid hk2
      clear hw2 hb2 hk2
      show K _ _
      refine hK.out _ _ hS2 (fun hS => ?_)
      clear hK K
      try go_frame
      refine wpAnyH_done (by kernel_rfl) ?_ _
      have hE := HSC.out.e
      have he0 := H.out.tm e0 (by rw [hE]; simp)
      have hn0 := H.out.neT (e := e0) (by rw [hE]; simp)
      have hpw := H.out.pw
      rw [hE, List.singleton_append, List.pairwise_cons] at hpw
      have hz2 := HK2.out.size
      have hzV : V.heap.size ≤ y2.heap.size := hz2
      obtain ⟨l1, l2, l3⟩ := HDA.out.lt
      have HWS : Hid (Ws y2 B0 d M most now (⟨slotN e0.a now, e0.b, e0.id, e0.a⟩ :: R) N) := Lib.hid (by
        refine ⟨⟨_, HW2.out, fun e he => ?_, fun q hq2 => ?_⟩, ?_, fun e he => ?_, ?_, H.out.z⟩
        · rcases List.mem_cons.1 he with rfl | he
          · unfold setT; simp
          · unfold setT
            rw [if_neg (HQ.out e he)]; exact HX.out.1 e he
        · have h1 := hq2 _ (List.mem_cons_self ..)
          unfold setT
          rw [if_neg (fun e => h1 e.symm)]
          exact HX.out.2 q (fun e he => hq2 e (List.mem_cons_of_mem _ he))
        · exact HDA.out.im.of_block (HK2.out.block M l2 (by rintro (e | e); exact hn0.2 e.symm; exact H.out.ne e.symm))
        · rcases List.mem_cons.1 he with rfl | he
          · exact ⟨HB2.out, HSQ.out, he0.2.2⟩
          · obtain ⟨h1, h2, h3⟩ := HDA.out.r e he
            have hlt := l3 e (by simp [he])
            exact ⟨(HK2.out.block e.b hlt (by rintro (e9 | e9); exact (hpw.1 e he).2 e9.symm; exact (H.out.neT (e := e) (by rw [hE]; simp [he])).1 e9)).trans h1, h2, h3⟩
        · exact List.pairwise_cons.2 ⟨fun e he => ⟨fun e2 => HQ.out e he e2.symm, (hpw.1 e he).2⟩, hpw.2⟩)
      have HBW : Hid (Below B0 w y2 ∧ w.heap.size ≤ y2.heap.size) := Lib.hid ⟨HDA.out.bel.drew.drew.trans (HK2.out.below (a := V.drew.drew) (Nat.le_trans hbz hzB) (fun i hi => by rcases hi with rfl | rfl; exact he0.2.2; exact H.out.z.1)), Nat.le_trans hzB hzV⟩
      go_wp2
      go_roundw
      case rel => exact ⟨rfl, .inr ⟨rfl, HWS, HBW⟩⟩
      case measure => simp [intOf]
    · have HTW : Hid (wsTwo none 0 wr) := Lib.hid (.inl (by omega))
      go_upto_region 16 with (go_at_call 45; refine (wssort (n := 0) HTW.out).mono ?_; rintro e w6 ⟨rfl, x6⟩)
      have HX6 := Lib.hid x6
      clear x6
      go_wp2
      go_loopw [71, 9] (fun z v wq => z = .int .i64 0 ∧ v = .slice none 0 0 ∧ wq = w6) (fun _ _ _ => 0)
      case atStart => exact ⟨rfl, rfl, rfl⟩
      case round =>
        obtain ⟨rfl, rfl, rfl⟩ := hrel
        go_wp2
        try rw [Exit.noGoto_ret]
        refine bodyPost_ret (results_tmp rfl _ _ _) rfl ?_
        exact ⟨rfl, HWS.out.below HX6.out, HBW.out.1.trans (HX6.out.mono (Nat.le_trans hbz HBW.out.2)), Nat.le_trans HBW.out.2 HX6.out.size⟩
end
end Go.Proofs.Ytkgbjohadkbjaaa
