/-
  Contracts and lemmas on which the proofs of this seat stand (several texts in one). Conditions are each theorem's own.
-/
import Derived.Test.YtcebobcakiljhaaNa7
import Derived.Sort.CutIn

/-
  Contracts of cut4's fragments and Cut. Conditions are each theorem's own.
-/
namespace Go.Proofs.Ytcebobcakiljhaa
open Go.RowKit Go.Shelf
attribute [local go_sem] Oper.semAt_some

theorem listI_valw {n : Nat} {P : Program} {ops : Array Oper} {rest : List Oper} {o : Oper} {a : Act} {w : World} {Q : Exit → Act → World → Prop} {v : Value} (hw : Region.wanted o (yielded ops a.tmps) = true) (hrun : (execOp a.eval o).run P w = .ok (.value v) w)
    (h : wpListIn Fence.wide n P ops Q rest (a.put o.dst v) w) : wpListIn Fence.wide n P ops Q (o :: rest) a w := by
  unfold wpListIn
  rw [if_pos hw]
  exact ⟨fun _ _ => trivial, by rw [show Fence.wide.round = none from rfl, Oper.semAt_none, hrun]; exact h⟩
theorem v4v_eq4 (q : P4) (A : Option Addr) (c : Nat) (A' : Option Addr) (c' : Nat) : v4v q A c A' c' = .agg (v4a q A c A' c') := rfl
theorem Kp4.loop {B l : Nat} {X : World} {r r' : Loop} (hr : X.heap[l]? = some (.loop r)) (hB : B ≤ l) : Kp4 B X (X.putObj l (.loop r')) := ⟨KeepS.loop hr, KeepP.loop (by omega)⟩
theorem info_v4 : (Try.prog.info? 24).map (fun i => (i.zero, i.size, i.bytes)) = some (some (v4v p4z none 0 none 0), 11, 112) := by kernel_rfl
theorem run_bs4 {o : Oper} {a : Act} {w : World} {x : Operand} {cs : Array Value} (ho : o.op = .buildSlice 26 1 #[(0, x)]) (hx : a.eval x = .agg cs) (hl : cs.size = 11) :
    (execOp a.eval o).run Try.prog w = .ok (.value (.slice (some ⟨w.heap.size, 0, none⟩) 1 1)) (w.alloc (.cells cs 24)) := by
  obtain ⟨i0, hi, hz0, hz1, hz2⟩ := info_parts info_v4
  have h := run_lit1 (P := Try.prog) w 26 24 i0 (v4v p4z none 0 none 0) cs 11 Try.underlying26 hi hz0 hz1 hl (by decide) (by decide)
  unfold execOp
  simp only [ho, List.map_toArray, List.map_cons, List.map_nil, hx, Sem.run_bind, h, Result.andThen_ok]
  rfl
theorem cells_new4 (X : World) (x : X4) : ∀ j u, (cl4 x)[j]? = some u → (X.alloc (.cells (v4a x.q x.A x.c x.A' x.c') 24)).cell? ((⟨X.heap.size, 0, none⟩ : Addr).add j) = some u := fun j u hu => by
  rw [add_off, Nat.zero_add, World.cell?_alloc_new, ← Array.getElem?_toList]; exact hu
/-- A slice of packets that owns its row, and whose packets own their lists. -/
def Row4 (V : World) (base : Nat) (v : Value) (l : List X4) : Prop := V.ownsRow base 24 11 v l.length (l.flatMap cl4) ∧ ∀ x ∈ l, Own4 V base x
theorem Row4.nil (V : World) (base : Nat) : Row4 V base (.slice none 0 0) [] := ⟨World.ownsRow_nil _ _ _ _, fun x h => by cases h⟩
theorem Row4.mark {V : World} {base D : Nat} {v : Value} {l : List X4} {o : Option (List Deferred)} (h : Row4 V base v l) (h2 : V.heap[D]? = some (.deferred o)) : Row4 (V.putObj D (.deferred none)) base v l :=
  ⟨ownsRow_putObj h.1 _ h2 rfl, fun x hx => ⟨ownsRow_putObj (h.2 x hx).1 _ h2 rfl, ownsRow_putObj (h.2 x hx).2 _ h2 rfl⟩⟩
theorem Row4.below {V Y : World} {base : Nat} {v : Value} {l : List X4} (h : Row4 V base v l) (hb : Below V.heap.size V Y) : Row4 Y base v l := ⟨own_below h.1 hb, fun x hx => (h.2 x hx).below hb⟩
/-- What a box holds while packets come; block r is not its row. -/
def InBox (V : World) (base b7 r : Nat) (pre : List X4) : Prop :=
  ∃ v, Boxed V b7 26 v ∧ V.ownsRow base 24 11 v pre.length (pre.flatMap cl4) ∧ (pre = [] → v = .slice none 0 0) ∧ v.ownBlock ≠ some r ∧ ∀ x ∈ pre, Own4 V base x
theorem InBox.nil {V : World} {base b7 r : Nat} (h : Boxed V b7 26 (.slice none 0 0)) : InBox V base b7 r [] := ⟨_, h, World.ownsRow_nil _ _ _ _, fun _ => rfl, (by simp [Value.ownBlock]), fun x h => by cases h⟩
theorem InBox.turn {V Y : World} {base b7 r : Nat} {pre : List X4} {row : Option Nat} (h : InBox V base b7 r pre) (hg : V.grownBy Y row) (hr : ∀ k, row = some k → ∃ o : Obj, V.heap[k]? = some o ∧ o.isCells = false) : InBox Y base b7 r pre := by
  obtain ⟨v, h1, h2, h3, h4, h5⟩ := h
  refine ⟨v, h1.kept hg (fun e' => ?_), h2.kept hg ?_, h3, h4, fun x hx => (h5 x hx).turn hg hr⟩
  · obtain ⟨o, ho, hc⟩ := hr b7 e'.symm
    rw [show V.heap[b7]? = _ from h1] at ho; cases ho; cases hc
  · rcases h2.2 with ⟨rfl, _⟩ | ⟨g, cap, cur, rfl, _, hgb, _⟩
    · exact .inl rfl
    · refine .inr fun e' => ?_
      obtain ⟨o, ho, hc⟩ := hr g (by simpa [Value.ownBlock] using e'.symm)
      rw [hgb] at ho; cases ho; cases hc
theorem InBox.own2 {V Y : World} {base b7 r k : Nat} {pre : List X4} {cs : Array Value} (h : InBox V base b7 r pre) (hg : V.grownBy Y (some k)) (hk : k = r) (hc : V.heap[k]? = some (.cells cs 24 (0, 0))) : InBox Y base b7 r pre := by
  subst hk
  obtain ⟨v, h1, h2, h3, h4, h5⟩ := h
  have key : ∀ {v : Value} {n : Nat} {xs : List Value}, V.ownsRow base 5 1 v n xs → Y.ownsRow base 5 1 v n xs := fun {v n xs} h => by
    refine h.kept hg ?_
    rcases h.2 with ⟨rfl, _⟩ | ⟨g, cap, cur, rfl, _, hgb, _⟩
    · exact .inl rfl
    · refine .inr fun e' => ?_
      have e2 : g = k := by simpa [Value.ownBlock] using e'
      subst e2
      rw [hgb] at hc; cases hc
  refine ⟨v, h1.kept hg (fun e' => ?_), h2.kept hg (.inr h4), h3, h4, fun x hx => ⟨key (h5 x hx).1, key (h5 x hx).2⟩⟩
  injection e' with e'
  subst e'
  have := (show V.heap[b7]? = _ from h1).symm.trans hc
  cases this
theorem frg_len (mtu : Int) (o : List UInt8) (mf : Bool) : ∀ (f : Nat) (q : P4), (frg mtu o mf f q).length ≤ f
  | 0, _ => Nat.le_refl _
  | f + 1, q => by
    rw [frg]; split
    · have := frg_len mtu o mf f (rest1 mtu o q); simp; omega
    · simp
theorem rst4_len (mtu : Int) (o : List UInt8) (mf : Bool) (q : P4) : (rst4 mtu o mf q).length ≤ q.dat.length + 1 := frg_len mtu o mf _ q
theorem frags_any (q : P4) (A : Option Addr) (c : Nat) (A' : Option Addr) (c' : Nat) (mtu : Int) (base B : Nat) (w : World) (hcut : Cuttable mtu q) (hco : (copied q.opt).length ≤ 40 ∧ (copied q.opt).length % 4 = 0) (hO : Arg w B A c q.opt) (hD : Arg w B A' c' q.dat) (hBb : B ≤ base) (hbw : base ≤ w.heap.size) :
    Calls Try.prog 29 #[v4v q A c A' c', .int .i64 mtu] w fun e w' => ∃ Bp Bm, e = .returned (.func (.func 53) #[] #[.pointer (some ⟨Bp, 0, none⟩), .pointer (some ⟨Bm, 0, none⟩)]) ∧ Below w.heap.size w w' ∧
      (∀ m, 1 ≤ m → SeqAll m Try.prog 24 53 #[.pointer (some ⟨Bp, 0, none⟩), .pointer (some ⟨Bm, 0, none⟩)] enc4 (G4 (rst4 mtu (copied q.opt) q.mf q) base) (Kp4 B) (fun xs => xs.map (·.q) = rst4 mtu (copied q.opt) q.mf q) w') := by
  rw [v4v_eq4]
  have hB : Below w.heap.size w ((w.alloc (.cells (v4a q A c A' c') 24)).alloc (.cells #[.int .i64 mtu] 3)) := ((Below.refl _ w).alloc (Nat.le_refl _) _).alloc (by simp) _
  have hp0 : ((w.alloc (.cells (v4a q A c A' c') 24)).alloc (.cells #[.int .i64 mtu] 3)).heap[w.heap.size]? = some (.cells (v4a q A c A' c') 24 (0, 0)) := (Below.heap_alloc (w.alloc (.cells (v4a q A c A' c') 24)) _ w.heap.size (by simp)).trans (World.alloc_heap_new w _)
  have hm0 : Boxed ((w.alloc (.cells (v4a q A c A' c') 24)).alloc (.cells #[.int .i64 mtu] 3)) (w.heap.size + 1) 3 (.int .i64 mtu) := by
    have := Boxed.new (w.alloc (.cells (v4a q A c A' c') 24)) 3 (.int .i64 mtu)
    rwa [World.size_alloc] at this
  go_enter Try.func29, Try.ntmps29
  go_wp2
  go_ret
  have hz : ((w.alloc (.cells (v4a q A c A' c') 24)).alloc (.cells #[.int .i64 mtu] 3)).heap.size = w.heap.size + 2 := by simp
  generalize (w.alloc (.cells (v4a q A c A' c') 24)).alloc (.cells #[.int .i64 mtu] 3) = V at *
  refine ⟨w.heap.size, w.heap.size + 1, rfl, hB, fun m hm l J W hW hJa hY hJ => ?_⟩
  have hWs := hW.size
  have hBW := hB.trans (hW.mono (by omega))
  exact frs1_in m hm l w.heap.size (w.heap.size + 1) base B q A c A' c' mtu hcut hco J W (hO.below (hBW.mono (by omega))) (hD.below (hBW.mono (by omega))) hBb (by omega)
    ((hW.block _ (by omega)).trans hp0) (Boxed.below hm0 hW (by omega)) hJa hY hJ
set_option maxRecDepth 100000 in
set_option maxHeartbeats 2000000 in
theorem c13cut (q : P4) (A : Option Addr) (c : Nat) (A' : Option Addr) (c' : Nat) (mtu : Int) (B : Nat) (w : World) (hO : Arg w B A c q.opt) (hD : Arg w B A' c' q.dat) (hB0 : B ≤ w.heap.size) (hol : q.opt.length ≤ 1000000) (hdl : q.dat.length ≤ 1000000) :
    Calls Try.prog 9 #[v4v q A c A' c', .int .i64 mtu] w fun e w' => ∃ v l, e = .returned (.tuple #[v, .int .i64 (cutE q mtu)]) ∧ Row4 w' w.heap.size v l ∧ l.map (·.q) = cutL q mtu ∧ Below w.heap.size w w' := by
  have hTn : 26 ≠ 24 := nat_ne (by kernel_rfl)
  have hTuT : 5 ≠ 26 := nat_ne (by kernel_rfl)
  have hTuS : 5 ≠ 24 := nat_ne (by kernel_rfl)
  have hB : Below w.heap.size w (w.alloc (.cells (v4a q A c A' c') 24)) := (Below.refl w.heap.size w).alloc (Nat.le_refl _) _
  have hAt := At4.new (q := q) (A := A) (c := c) (A' := A') (c' := c') w
  have hz : w.heap.size < (w.alloc (.cells (v4a q A c A' c') 24)).heap.size := by simp
  rw [v4v_eq4]
  refine (callsIn_wide (n := 4)).1 ?_
  refine callsIn_of_wp_marks Try.func9 rfl trivial ?_ rfl
  simp only [Try.ntmps9, List.size_toArray, List.length_cons, List.length_nil, Nat.reduceAdd, Nat.reduceSub, Array.replicate_succ, Array.replicate_zero, List.push_toArray, List.append_toArray, List.nil_append, List.cons_append]
  gi_upto_region 1 with fail
  generalize w.alloc (.cells (v4a q A c A' c') 24) = W at *
  have kdf := hAt.df
  by_cases h1 : mtu < 68
  · have d1 : decide (mtu < 68) = true := by simpa using h1
    have HE := Lib.hid (show cutE q mtu = 1 by rw [cutE, if_pos (.inl h1)])
    clear h1
    gi_wp2
    refine leaves_marks w.heap.size (fun Y => Below w.heap.size w Y) (fun Y D hY h1 h2 => hY.trans (belowK_b (w := w) (Nat.le_refl _) Y D _ _ h1 h2 rfl rfl))
      (fun Y hY => ⟨_, results_tmp2 rfl _ _ _, .slice none 0 0, [], by rw [HE.out]; rfl, Row4.nil _ _, by rw [cutL, if_neg (by rw [HE.out]; decide)]; rfl, hY⟩) [] w.heap.size _ trivial hB
  · have d1 : decide (mtu < 68) = false := by simpa using h1
    by_cases h2 : mtu > 65535
    · have d2 : decide (mtu > 65535) = true := by simpa using h2
      have HE := Lib.hid (show cutE q mtu = 1 by rw [cutE, if_pos (.inr h2)])
      clear h1 h2
      gi_wp2
      refine leaves_marks w.heap.size (fun Y => Below w.heap.size w Y) (fun Y D hY h1 h2 => hY.trans (belowK_b (w := w) (Nat.le_refl _) Y D _ _ h1 h2 rfl rfl))
        (fun Y hY => ⟨_, results_tmp2 rfl _ _ _, .slice none 0 0, [], by rw [HE.out]; rfl, Row4.nil _ _, by rw [cutL, if_neg (by rw [HE.out]; decide)]; rfl, hY⟩) [] w.heap.size _ trivial hB
    · have d2 : decide (mtu > 65535) = false := by simpa using h2
      have HM : Hid (¬ (mtu < 68 ∨ mtu > 65535)) := Lib.hid (by omega)
      by_cases hk : chk4 q = 0
      · have HK := Lib.hid hk
        have HDL : Hid (q.dat.length ≤ 65535) := Lib.hid (by have := chk4_ok hk; have h2 := this.2.1; unfold size4 head4 at h2; omega)
        clear h1 h2 hk
        gi_upto_region 6 with (first
          | ((with_reducible show wpListIn _ _ _ _ _ (Oper.mk _ (Op.load 24 _) _ _ _ _ :: _) _ _); refine listI_val rfl (run_load_v4 rfl rfl hAt rfl) ?_)
          | (refine ⟨trivial, ?_⟩; gi_at_call 19; refine (callsIn_wide.2 (c4check q A c A' c' _ hol hdl)).mono ?_; rintro e w1 ⟨rfl, x1⟩; rw [HK.out]))
        have hAt1 := hAt.below x1 hz
        have hB1 := hB.trans (x1.mono hB.size)
        have kdf1 := hAt1.df
        have hz1 := Nat.lt_of_lt_of_le hz x1.size
        clear kdf hAt
        cases hdf : q.df with
        | true =>
          rw [hdf] at kdf1
          by_cases hs : size4 q > mtu
          · have s1 : decide (size4 q > mtu) = true := by simpa using hs
            have s2 : decide (mtu < size4 q) = true := by simpa using hs
            have HE := Lib.hid (show cutE q mtu = 6 by rw [cutE, if_neg HM.out, if_pos HK.out, if_pos ⟨hdf, hs⟩])
            clear hs hdf
            gi_wp2_with (first
              | ((with_reducible show wpListIn _ _ _ _ _ (Oper.mk _ (Op.load 24 _) _ _ _ _ :: _) _ _); refine listI_valw (by rfl) (run_load_v4 rfl rfl hAt1 rfl) ?_)
              | (refine ⟨trivial, ?_⟩; gi_at_call 18; refine (callsIn_wide.2 (c4size q A c A' c' _ hol hdl)).mono ?_; rintro e w2 ⟨rfl, x2⟩))
            refine leaves_marks w.heap.size (fun Y => Below w.heap.size w Y) (fun Y D hY h1 h2 => hY.trans (belowK_b (w := w) (Nat.le_refl _) Y D _ _ h1 h2 rfl rfl))
              (fun Y hY => ⟨_, results_tmp2 rfl _ _ _, .slice none 0 0, [], by rw [HE.out]; rfl, Row4.nil _ _, by rw [cutL, if_neg (by rw [HE.out]; decide)]; rfl, hY⟩) [] w.heap.size _ trivial (hB1.trans (x2.mono hB1.size))
          · have s1 : decide (size4 q > mtu) = false := by simpa using hs
            have s2 : decide (mtu < size4 q) = false := by simpa using hs
            have HE0 := Lib.hid (show cutE q mtu = 0 by rw [cutE, if_neg HM.out, if_pos HK.out, if_neg (fun h => hs h.2)])
            have HCK := Lib.hid (cutE_ok HE0.out)
            clear hs hdf
            gi_upto_region 9 with (first
              | ((with_reducible show wpListIn _ _ _ _ _ (Oper.mk _ (Op.load 24 _) _ _ _ _ :: _) _ _); refine listI_valw (by rfl) (run_load_v4 rfl rfl hAt1 rfl) ?_)
              | (refine ⟨trivial, ?_⟩; gi_at_call 18; refine (callsIn_wide.2 (c4size q A c A' c' _ hol hdl)).mono ?_; rintro e w2 ⟨rfl, x2⟩))
            have hB2 := hB1.trans (x2.mono hB1.size)
            have hAt2 := hAt1.below x2 hz1
            have hz2 := Nat.lt_of_lt_of_le hz1 x2.size
            have hbx := Boxed.new w2 26 (.slice none 0 0)
            have hY0 : Below w2.heap.size w2 (w2.alloc (.cells #[.slice none 0 0] 26)) := (Below.refl _ _).alloc (Nat.le_refl _) _
            have hBY := hB2.trans (hY0.mono hB2.size)
            have hAtX := hAt2.below hY0 hz2
            have hYz : w2.heap.size < (w2.alloc (.cells #[.slice none 0 0] 26)).heap.size := by simp
            obtain ⟨b7, hb7e⟩ : ∃ b, b = w2.heap.size := ⟨_, rfl⟩
            rw [← hb7e] at hbx hYz ⊢
            have hb7 : w.heap.size ≤ b7 := by rw [hb7e]; exact hB2.size
            generalize w2.alloc (.cells #[.slice none 0 0] 26) = Y at *
            clear hY0 hAt1 hAt2 kdf1 hB1 x1 hb7e
            gi_wp2_with (first
              | ((with_reducible show wpListIn _ _ _ _ _ (Oper.mk _ (Op.load 24 _) _ _ _ _ :: _) _ _); refine listI_val rfl (run_load_v4 rfl rfl hAtX rfl) ?_)
              | (refine ⟨trivial, ?_⟩; gi_at_call 29; refine (callsIn_wide.2 (frags_any q A c A' c' mtu w.heap.size B _ HCK.out.1 HCK.out.2.2 (hO.below (hBY.mono hB0)) (hD.below (hBY.mono hB0)) hB0 (by omega))).mono ?_; rintro e w3 ⟨Bp, Bm, rfl, x3, hseq⟩))
            have hz3 := x3.size
            have hbx3 := Boxed.below hbx x3 (by omega)
            have hB3 : Below w.heap.size w w3 := hBY.trans (x3.mono (by omega))
            clear hbx hAtX
            refine range_box (by omega) 8 24 (gf := 53) (lb := #[.pointer (some ⟨Bp, 0, none⟩), .pointer (some ⟨Bm, 0, none⟩)]) (cells := fun x => v4a x.q x.A x.c x.A' x.c') rfl (enters_of Try.func53 (by kernel_rfl) rfl)
              (hseq (4 - 1) (by omega)) Kp4.trans (fun V l r r' hl hr => Kp4.loop hr (by omega)) (Below.refl _ _) (fun _ => rfl)
              (fun pre x V l r r' h _ hl => ⟨h.1, h.2.loop hl⟩)
              (fun pre V => InBox V w.heap.size b7 (w3.heap.size + 2) pre ∧ Below w.heap.size w V)
              (fun pre V Y r hs hg hr => ⟨hs.1.turn hg (fun k e => (hr k e).2), below_keep hs.2 hg hr (by omega) (Nat.le_refl _)⟩)
              (fun pre V Y k cs hs hg hk hc => ⟨hs.1.own2 hg hk hc, hs.2.grown hg hs.2.size (fun j e => by cases e; omega)⟩)
              ⟨InBox.nil hbx3, hB3⟩
              (fun pre x V o h => ⟨h.1, h.2.below ((Below.refl _ V).alloc (Nat.le_refl _) o)⟩) (fun V o hz => Kp4.of_below ((Below.refl _ V).alloc (Nat.le_refl _) o) (by omega)) ?assign ?body ?done
            case assign =>
              intro l x V K hK
              dsimp only [enc4] at hK ⊢
              gi_wp2_with ((with_reducible show wpListIn _ _ _ _ _ (Oper.mk _ (Op.store 24 _ _) _ _ _ _ :: _) _ _); refine listR_skip rfl (fun c h => by cases h) (run_store4 (cs := v4a x.q x.A x.c x.A' x.c') rfl rfl rfl (World.alloc_heap_new V _) rfl rfl (v4a_one _ _ _ _ _)) ?_; rw [World.setRow_alloc_new])
              simp [Act.put] at hK ⊢
              exact hK
            case body =>
              rintro l pre x b X ⟨hin, hBX⟩ ⟨⟨more, hmore⟩, hown⟩ hzX hb
              dsimp only [enc4]
              have hpl : pre.length < 65537 := by
                have h1 := rst4_len mtu (copied q.opt) q.mf q
                have h2 := congrArg List.length hmore
                rw [List.length_append, List.length_cons, List.length_map] at h2
                have := HDL.out; omega
              obtain ⟨v, hvX, hoX, hnX, hrX, haX⟩ := hin
              obtain ⟨Av, cv, rfl⟩ := own_slice hoX
              have hcv := hvX.cell
              have hfv := hvX.frozen
              have hatb := at4_of hb
              obtain ⟨i0, hi, hz0, hz1, hz2'⟩ := info_parts info_v4
              have hnv : Value.slice Av pre.length cv = .slice none 0 0 ∨ 0 < pre.length := by
                rcases Nat.eq_zero_or_pos pre.length with h0 | h0
                · exact .inl (hnX (List.eq_nil_of_length_eq_zero h0))
                · exact .inr h0
              have hB7 : w.heap.size ≤ b7 := hb7
              go_frame
              gi_wp2_with (first
                | ((with_reducible show wpListIn _ _ _ _ _ (Oper.mk _ (Op.load 24 _) _ _ _ _ :: _) _ _); refine listR_val rfl (fun c h => by cases h) (run_load_v4 rfl rfl hatb rfl) ?_)
                | ((with_reducible show wpListIn _ _ _ _ _ (Oper.mk _ (Op.buildSlice _ _ _) _ _ _ _ :: _) _ _); refine listR_grow rfl (fun c h => by cases h) (run_bs4 (cs := v4a x.q x.A x.c x.A' x.c') rfl rfl rfl) ?_)
                | (gi_at_builtin; refine wpListIn_append_one _ rfl _ _ 26 rfl w.heap.size 24 i0 (v4v p4z none 0 none 0) 11 112 Try.underlying26 hi hz0 hz1 hz2' rfl (by decide) _ pre.length (pre.flatMap cl4) rfl (hoX.alloc _) hnv ⟨X.heap.size, 0, none⟩ 1 (cl4 x) rfl rfl (cells_new4 X x) (cl4_one x) (by unfold maxLen; omega) (by omega) (by have := hBX.size; simp; omega) ?_; intro v' w' hown' hgrow hkeep hblk; obtain ⟨q1, q2, q3, q4, q5⟩ := Boxed.appended hvX hTn hoX hBX.size hB7 hown' hgrow; have qc := q1.cell; have qf := q1.frozen; obtain ⟨A9, c9, rfl⟩ := own_slice hown'))
              have hKS : KeepS 24 26 11 X (w'.setCell ⟨b7, 0, none⟩ (.slice A9 (pre.length + 1) c9)) := ⟨q5.size, fun k cs ty fr hk h1 h2 => by
                have hk1 : (X.alloc (.cells (v4a x.q x.A x.c x.A' x.c') 24)).heap[k]? = some (.cells cs ty fr) := (Below.heap_alloc X _ k (heap_lt hk)).trans hk
                have hne : k ≠ b7 := fun e => by
                  subst e
                  have := (show X.heap[k]? = _ from hvX).symm.trans hk
                  simp at this
                  exact h1 this.2.1.symm
                exact (Below.heap_setCell _ _ _ k hne).trans ((hkeep k cs ty fr hk1 h2).trans (hk1.trans hk.symm))⟩
              refine ⟨q4.from _, ⟨hKS, KeepP.of_below q5 (fun k hk => Nat.lt_of_lt_of_le hk hB0)⟩, ⟨_, q2, ?_, fun e => absurd e (by simp), ?_, ?_⟩, hBX.trans q5⟩
              · rw [List.length_append, List.flatMap_append, List.flatMap_cons, List.flatMap_nil, List.append_nil]; exact q3
              · rcases hblk with e | e
                · rw [e]; exact hrX
                · rw [e]; intro e'; injection e' with e'; rw [World.size_alloc] at e'; omega
              · intro y hy
                rcases List.mem_append.1 hy with hy | hy
                · exact (haX y hy).keep hKS hTuT hTuS
                · rw [List.mem_singleton.1 hy]; exact hown.keep hKS hTuT hTuS
            case done =>
              rintro D xs X hD hS ⟨⟨v, hvX, hoX, hnX, hrX, haX⟩, hBX⟩ hK
              have hm1 : Marks w3.heap.size X.heap.size [{ target := .collected D, args := #[] }] X := (Marks.push (hi := D) (ds := []) trivial (Nat.le_refl _) hD hK).more (heap_lt hK)
              obtain ⟨Av, cv, rfl⟩ := own_slice hoX
              have hcv := hvX.cell
              gi_wp2
              refine leaves_marks w3.heap.size (fun Y => Row4 Y w.heap.size (.slice Av xs.length cv) xs ∧ Below w.heap.size w Y) (fun Y D hY h1 h2 => ⟨hY.1.mark h2, hY.2.trans (belowK_b (w := w) (Nat.le_refl _) Y D _ _ (by omega) h2 rfl rfl)⟩)
                (fun Y hY => ⟨_, results_tmp2 rfl _ _ _, _, xs, by rw [HE0.out]; rfl, hY.1, ?_, hY.2⟩) _ _ _ hm1 ⟨⟨hoX, haX⟩, hBX⟩
              rw [cutL, if_pos HE0.out]; exact hS
        | false =>
          rw [hdf] at kdf1
          have HE0 := Lib.hid (show cutE q mtu = 0 by rw [cutE, if_neg HM.out, if_pos HK.out, if_neg (fun h => by rw [hdf] at h; exact absurd h.1 (by decide))])
          have HCK := Lib.hid (cutE_ok HE0.out)
          clear hdf
          gi_upto_region 9 with (first | (refine ⟨trivial, ?_⟩; go_at_K) | (refine ⟨fun _ h => (by cases h), ?_⟩; go_at_K))
          have hB2 := hB1
          have hAt2 := hAt1
          have hz2 := hz1
          have x2 := Below.refl w1.heap.size w1
          have hbx := Boxed.new w1 26 (.slice none 0 0)
          have hY0 : Below w1.heap.size w1 (w1.alloc (.cells #[.slice none 0 0] 26)) := (Below.refl _ _).alloc (Nat.le_refl _) _
          have hBY := hB2.trans (hY0.mono hB2.size)
          have hAtX := hAt2.below hY0 hz2
          have hYz : w1.heap.size < (w1.alloc (.cells #[.slice none 0 0] 26)).heap.size := by simp
          obtain ⟨b7, hb7e⟩ : ∃ b, b = w1.heap.size := ⟨_, rfl⟩
          rw [← hb7e] at hbx hYz ⊢
          have hb7 : w.heap.size ≤ b7 := by rw [hb7e]; exact hB2.size
          generalize w1.alloc (.cells #[.slice none 0 0] 26) = Y at *
          clear hY0 hAt1 hAt2 kdf1 hB1 x1 hb7e
          gi_wp2_with (first
            | ((with_reducible show wpListIn _ _ _ _ _ (Oper.mk _ (Op.load 24 _) _ _ _ _ :: _) _ _); refine listI_val rfl (run_load_v4 rfl rfl hAtX rfl) ?_)
            | (refine ⟨trivial, ?_⟩; gi_at_call 29; refine (callsIn_wide.2 (frags_any q A c A' c' mtu w.heap.size B _ HCK.out.1 HCK.out.2.2 (hO.below (hBY.mono hB0)) (hD.below (hBY.mono hB0)) hB0 (by omega))).mono ?_; rintro e w3 ⟨Bp, Bm, rfl, x3, hseq⟩))
          have hz3 := x3.size
          have hbx3 := Boxed.below hbx x3 (by omega)
          have hB3 : Below w.heap.size w w3 := hBY.trans (x3.mono (by omega))
          clear hbx hAtX
          refine range_box (by omega) 8 24 (gf := 53) (lb := #[.pointer (some ⟨Bp, 0, none⟩), .pointer (some ⟨Bm, 0, none⟩)]) (cells := fun x => v4a x.q x.A x.c x.A' x.c') rfl (enters_of Try.func53 (by kernel_rfl) rfl)
            (hseq (4 - 1) (by omega)) Kp4.trans (fun V l r r' hl hr => Kp4.loop hr (by omega)) (Below.refl _ _) (fun _ => rfl)
            (fun pre x V l r r' h _ hl => ⟨h.1, h.2.loop hl⟩)
            (fun pre V => InBox V w.heap.size b7 (w3.heap.size + 2) pre ∧ Below w.heap.size w V)
            (fun pre V Y r hs hg hr => ⟨hs.1.turn hg (fun k e => (hr k e).2), below_keep hs.2 hg hr (by omega) (Nat.le_refl _)⟩)
            (fun pre V Y k cs hs hg hk hc => ⟨hs.1.own2 hg hk hc, hs.2.grown hg hs.2.size (fun j e => by cases e; omega)⟩)
            ⟨InBox.nil hbx3, hB3⟩
            (fun pre x V o h => ⟨h.1, h.2.below ((Below.refl _ V).alloc (Nat.le_refl _) o)⟩) (fun V o hz => Kp4.of_below ((Below.refl _ V).alloc (Nat.le_refl _) o) (by omega)) ?assign ?body ?done
          case assign =>
            intro l x V K hK
            dsimp only [enc4] at hK ⊢
            gi_wp2_with ((with_reducible show wpListIn _ _ _ _ _ (Oper.mk _ (Op.store 24 _ _) _ _ _ _ :: _) _ _); refine listR_skip rfl (fun c h => by cases h) (run_store4 (cs := v4a x.q x.A x.c x.A' x.c') rfl rfl rfl (World.alloc_heap_new V _) rfl rfl (v4a_one _ _ _ _ _)) ?_; rw [World.setRow_alloc_new])
            simp [Act.put] at hK ⊢
            exact hK
          case body =>
            rintro l pre x b X ⟨hin, hBX⟩ ⟨⟨more, hmore⟩, hown⟩ hzX hb
            dsimp only [enc4]
            have hpl : pre.length < 65537 := by
              have h1 := rst4_len mtu (copied q.opt) q.mf q
              have h2 := congrArg List.length hmore
              rw [List.length_append, List.length_cons, List.length_map] at h2
              have := HDL.out; omega
            obtain ⟨v, hvX, hoX, hnX, hrX, haX⟩ := hin
            obtain ⟨Av, cv, rfl⟩ := own_slice hoX
            have hcv := hvX.cell
            have hfv := hvX.frozen
            have hatb := at4_of hb
            obtain ⟨i0, hi, hz0, hz1, hz2'⟩ := info_parts info_v4
            have hnv : Value.slice Av pre.length cv = .slice none 0 0 ∨ 0 < pre.length := by
              rcases Nat.eq_zero_or_pos pre.length with h0 | h0
              · exact .inl (hnX (List.eq_nil_of_length_eq_zero h0))
              · exact .inr h0
            have hB7 : w.heap.size ≤ b7 := hb7
            go_frame
            gi_wp2_with (first
              | ((with_reducible show wpListIn _ _ _ _ _ (Oper.mk _ (Op.load 24 _) _ _ _ _ :: _) _ _); refine listR_val rfl (fun c h => by cases h) (run_load_v4 rfl rfl hatb rfl) ?_)
              | ((with_reducible show wpListIn _ _ _ _ _ (Oper.mk _ (Op.buildSlice _ _ _) _ _ _ _ :: _) _ _); refine listR_grow rfl (fun c h => by cases h) (run_bs4 (cs := v4a x.q x.A x.c x.A' x.c') rfl rfl rfl) ?_)
              | (gi_at_builtin; refine wpListIn_append_one _ rfl _ _ 26 rfl w.heap.size 24 i0 (v4v p4z none 0 none 0) 11 112 Try.underlying26 hi hz0 hz1 hz2' rfl (by decide) _ pre.length (pre.flatMap cl4) rfl (hoX.alloc _) hnv ⟨X.heap.size, 0, none⟩ 1 (cl4 x) rfl rfl (cells_new4 X x) (cl4_one x) (by unfold maxLen; omega) (by omega) (by have := hBX.size; simp; omega) ?_; intro v' w' hown' hgrow hkeep hblk; obtain ⟨q1, q2, q3, q4, q5⟩ := Boxed.appended hvX hTn hoX hBX.size hB7 hown' hgrow; have qc := q1.cell; have qf := q1.frozen; obtain ⟨A9, c9, rfl⟩ := own_slice hown'))
            have hKS : KeepS 24 26 11 X (w'.setCell ⟨b7, 0, none⟩ (.slice A9 (pre.length + 1) c9)) := ⟨q5.size, fun k cs ty fr hk h1 h2 => by
              have hk1 : (X.alloc (.cells (v4a x.q x.A x.c x.A' x.c') 24)).heap[k]? = some (.cells cs ty fr) := (Below.heap_alloc X _ k (heap_lt hk)).trans hk
              have hne : k ≠ b7 := fun e => by
                subst e
                have := (show X.heap[k]? = _ from hvX).symm.trans hk
                simp at this
                exact h1 this.2.1.symm
              exact (Below.heap_setCell _ _ _ k hne).trans ((hkeep k cs ty fr hk1 h2).trans (hk1.trans hk.symm))⟩
            refine ⟨q4.from _, ⟨hKS, KeepP.of_below q5 (fun k hk => Nat.lt_of_lt_of_le hk hB0)⟩, ⟨_, q2, ?_, fun e => absurd e (by simp), ?_, ?_⟩, hBX.trans q5⟩
            · rw [List.length_append, List.flatMap_append, List.flatMap_cons, List.flatMap_nil, List.append_nil]; exact q3
            · rcases hblk with e | e
              · rw [e]; exact hrX
              · rw [e]; intro e'; injection e' with e'; rw [World.size_alloc] at e'; omega
            · intro y hy
              rcases List.mem_append.1 hy with hy | hy
              · exact (haX y hy).keep hKS hTuT hTuS
              · rw [List.mem_singleton.1 hy]; exact hown.keep hKS hTuT hTuS
          case done =>
            rintro D xs X hD hS ⟨⟨v, hvX, hoX, hnX, hrX, haX⟩, hBX⟩ hK
            have hm1 : Marks w3.heap.size X.heap.size [{ target := .collected D, args := #[] }] X := (Marks.push (hi := D) (ds := []) trivial (Nat.le_refl _) hD hK).more (heap_lt hK)
            obtain ⟨Av, cv, rfl⟩ := own_slice hoX
            have hcv := hvX.cell
            gi_wp2
            refine leaves_marks w3.heap.size (fun Y => Row4 Y w.heap.size (.slice Av xs.length cv) xs ∧ Below w.heap.size w Y) (fun Y D hY h1 h2 => ⟨hY.1.mark h2, hY.2.trans (belowK_b (w := w) (Nat.le_refl _) Y D _ _ (by omega) h2 rfl rfl)⟩)
              (fun Y hY => ⟨_, results_tmp2 rfl _ _ _, _, xs, by rw [HE0.out]; rfl, hY.1, ?_, hY.2⟩) _ _ _ hm1 ⟨⟨hoX, haX⟩, hBX⟩
            rw [cutL, if_pos HE0.out]; exact hS
      · have HE := Lib.hid (show cutE q mtu = chk4 q by rw [cutE, if_neg HM.out, if_neg hk])
        have HN := Lib.hid hk
        have dk : (chk4 q != 0) = true := by simpa using hk
        clear h1 h2 hk
        gi_wp2_with (first
          | ((with_reducible show wpListIn _ _ _ _ _ (Oper.mk _ (Op.load 24 _) _ _ _ _ :: _) _ _); refine listI_val rfl (run_load_v4 rfl rfl hAt rfl) ?_)
          | (refine ⟨trivial, ?_⟩; gi_at_call 19; refine (callsIn_wide.2 (c4check q A c A' c' _ hol hdl)).mono ?_; rintro e w1 ⟨rfl, x1⟩))
        refine leaves_marks w.heap.size (fun Y => Below w.heap.size w Y) (fun Y D hY h1 h2 => hY.trans (belowK_b (w := w) (Nat.le_refl _) Y D _ _ h1 h2 rfl rfl))
          (fun Y hY => ⟨_, results_tmp2 rfl _ _ _, .slice none 0 0, [], by rw [HE.out]; rfl, Row4.nil _ _, by rw [cutL, if_neg (by rw [HE.out]; exact HN.out)]; rfl, hY⟩) [] w.heap.size _ trivial (hB.trans (x1.mono hB.size))

end Go.Proofs.Ytcebobcakiljhaa

/-
  A region that draws its order, loads, and then stores into what it loaded: a load is taken ahead as long as a certain store has not come up; the walk's moves. Conditions are each theorem's own.
-/
namespace Go.Proofs.Ytcebobcakiljhaa
open Go.RowKit

section
variable {n : Nat} {P : Program} {ops : Array Oper} {Q : Exit → Act → World → Prop} {md : Region.Mode} {S : World → Prop} {y : Nat}
/-- Whatever comes up next, S holds behind it, as long as operation y has not come up. -/
def anyHY (n : Nat) (P : Program) (md : Region.Mode) (ops : Array Oper) (Q : Exit → Act → World → Prop) (y : Nat) (S : World → Prop) : Nat → Array Bool → Act → World → Prop
  | 0, listed, a, w => Region.ready md ops listed = [] ∧ Q .normal a w
  | fuel + 1, listed, a, w => (Region.ready md ops listed = [] → Q .normal a w) ∧
    ∀ i ∈ Region.ready md ops listed, wpOpIn Fence.wide n P ops Q i (fun a' w' => ((listed.setIfInBounds i true).getD y true = false → S w') ∧ anyHY n P md ops Q y S fuel (listed.setIfInBounds i true) a' w') a w
theorem any_of_HY : ∀ (fuel : Nat) (listed : Array Bool) (a : Act) (w : World), anyHY n P md ops Q y S fuel listed a w → wpAnyIn Fence.wide n P md ops Q fuel listed a w
  | 0, _, _, _, h => h
  | fuel + 1, _, _, _, h => ⟨h.1, fun i hi => wpOpIn_mono (fun a' w' h' => any_of_HY fuel _ a' w' h'.2) (h.2 i hi)⟩
/-- Operation y waits for operation i. -/
def waitsB (md : Region.Mode) (ops : Array Oper) (y i : Nat) : Bool := match ops[y]? with | some o => o.after.any fun e => Region.binds md e && e.on == i | none => false
theorem waitsB_spec {i : Nat} {o : Oper} (h : waitsB md ops y i = true) (ho : ops[y]? = some o) : ∃ e ∈ o.after, Region.binds md e = true ∧ e.on = i := by
  unfold waitsB at h
  rw [ho] at h
  obtain ⟨e, he, hb⟩ := Array.any_eq_true'.1 h
  simp only [Bool.and_eq_true, beq_iff_eq] at hb
  exact ⟨e, he, hb.1, hb.2⟩
theorem takeY_all {i : Nat} {oi : Oper} {v : Value} (hi : ops[i]? = some oi) (hw : waitsB md ops y i = true) (hsel : ∀ (j : Nat) (o : Oper) cs b, ops[j]? = some o → o.op ≠ .select cs b) (hQ : ∀ c a w, Q (.panic c) (a.put oi.dst v) w → Q (.panic c) a w) :
    ∀ (fuel : Nat) (listed : Array Bool) (a : Act) (w : World), (∀ j oj, ops[j]? = some oj → j ≠ i → listed.getD j true = false → (∀ e ∈ oj.after, Region.binds md e = true → e.on ≠ i) → oi.apart ops oj = true) →
      i ∈ Region.ready md ops listed → listed.getD y true = false → YieldsIf P ops S oi v a → S w → anyHY n P md ops Q y S fuel (listed.setIfInBounds i true) (a.put oi.dst v) w → anyHY n P md ops Q y S (fuel + 1) listed a w
  | fuel, listed, a, w, free, hr, hyl, hy, hS, H => by
    refine ⟨fun h => (by rw [h] at hr; cases hr), fun j hj => ?_⟩
    by_cases hji : j = i
    · subst hji; exact opI_here hi hy hS ⟨fun _ => hS, H⟩
    have hj' := ready_mono hj hji
    cases fuel with
    | zero => rw [H.1] at hj'; cases hj'
    | succ fuel =>
      obtain ⟨hjun, oj, hoj, hall⟩ := mem_ready.1 hj
      have hnot : ∀ e ∈ oj.after, Region.binds md e = true → e.on ≠ i := fun e he hb heq => by
        have g1 := hall e he hb
        have g0 := (mem_ready.1 hr).1
        rw [heq] at g1
        rcases Nat.lt_or_ge i listed.size with h' | h'
        · simp [h'] at g0 g1; rw [g0] at g1; cases g1
        · simp [Array.getElem?_eq_none h'] at g1
      have hjy : j ≠ y := fun e => by
        subst e
        obtain ⟨e, he, hb, hon⟩ := waitsB_spec hw hoj
        exact hnot e he hb hon
      have hyl' : (listed.setIfInBounds j true).getD y true = false := by rw [getD_set_ne true hjy]; exact hyl
      refine wpOpIn_mono (fun a' w' h3 => ?_) (opI_swap hoj (free j oj hoj hji hjun hnot) (fun cs b => hsel i oi cs b hi) (fun cs b => hsel j oj cs b hoj) hQ hy (H.2 j hj'))
      have hS' : S w' := h3.2.1 (by rw [getD_set_ne true hjy]; by_cases hiy : i = y
                                    · subst hiy
                                      have g0 := (mem_ready.1 hr).1
                                      obtain ⟨e, he, hb, hon⟩ := waitsB_spec hw hi
                                      obtain ⟨_, o2, ho2, hall2⟩ := mem_ready.1 hr
                                      rw [hi] at ho2
                                      cases ho2
                                      have g1 := hall2 e he hb
                                      rw [hon] at g1
                                      exfalso
                                      rcases Nat.lt_or_ge i listed.size with h' | h'
                                      · simp [h'] at g0 g1; rw [g0] at g1; cases g1
                                      · simp [Array.getElem?_eq_none h'] at g1
                                    · rw [getD_set_ne true hiy]; exact hyl)
      refine ⟨fun _ => hS', takeY_all hi hw hsel hQ fuel (listed.setIfInBounds j true) a' w' (fun k ok hk hki hun hno => free k ok hk hki ?_ hno) (ready_mono hr (Ne.symm hji)) hyl' h3.1 hS' (by rw [Array.setIfInBounds_comm _ _ hji]; exact h3.2.2)⟩
      by_cases hjk : j = k
      · subst hjk; exact hjun
      · rw [getD_set_ne true hjk] at hun; exact hun
theorem pureY {i : Nat} {oi : Oper} {v : Value} {fuel : Nat} {listed : Array Bool} {a : Act} {w : World} (hi : ops[i]? = some oi) (hs : Region.noSelect ops = true) (hf : Region.free md ops listed i = true) (hr : (Region.ready md ops listed).contains i = true)
    (hd : waitsB md ops y i = true) (hyl : listed.getD y true = false) (hQ : ∀ c a w, Q (.panic c) (a.put oi.dst v) w → Q (.panic c) a w) (hw : Region.wanted oi (yielded ops a.tmps) = true) (hrun : ∀ w, S w → (execOp a.eval oi).run P w = .ok (.value v) w) (hS : S w)
    (h : anyHY n P md ops Q y S fuel (listed.setIfInBounds i true) (a.put oi.dst v) w) : anyHY n P md ops Q y S (fuel + 1) listed a w :=
  takeY_all hi hd (Region.noSelect_spec hs) hQ fuel listed a w (Region.free_spec hi hf) (by simpa using hr) hyl (.inl ⟨hw, hrun⟩) hS h
theorem oneY {i : Nat} {oi : Oper} {fuel : Nat} {listed : Array Bool} {a : Act} {w : World} (hr : Region.ready md ops listed = [i]) (hi : ops[i]? = some oi) (hw : Region.wanted oi (yielded ops a.tmps) = true)
    (h : ∀ K : Act → World → Prop, (∀ a w, ((listed.setIfInBounds i true).getD y true = false → S w) → anyHY n P md ops Q y S fuel (listed.setIfInBounds i true) a w → K a w) → oi.wpIn Fence.wide n P a w K Q) : anyHY n P md ops Q y S (fuel + 1) listed a w := by
  refine ⟨fun h0 => (by rw [hr] at h0; cases h0), fun j hj => ?_⟩
  rw [hr, List.mem_singleton] at hj
  subst hj
  unfold wpOpIn
  simp only [hi]
  rw [if_pos hw]
  exact h _ (fun a w hS hW => ⟨hS, hW⟩)
theorem doneY {listed : Array Bool} {a : Act} {w : World} (hr : Region.ready md ops listed = []) (h : Q .normal a w) : ∀ fuel, anyHY n P md ops Q y S fuel listed a w
  | 0 => ⟨hr, h⟩
  | _ + 1 => ⟨fun _ => h, by rw [hr]; simp⟩
theorem regionY (y : Nat) (S : World → Prop) {id : Nat} {a : Act} {w : World} (hm : P.follows .mixedOrders = true) (h : anyHY 0 P .any ops Q y S ops.size (Array.replicate ops.size false) a w.drew) : (Code.region id ops true).wp P Q a w :=
  wpIn_wide.1 (wpIn_region_any (n := 0) hm (any_of_HY _ _ _ _ h))
/-- An operation that yields a value; one that goes by its plain law. -/
theorem valI {o : Oper} {a : Act} {w : World} {K : Act → World → Prop} {v : Value} (hrun : (execOp a.eval o).run P w = .ok (.value v) w) (h : K (a.put o.dst v) w) : o.wpIn Fence.wide n P a w K Q :=
  ⟨fun _ _ => trivial, by rw [show Fence.wide.round = none from rfl, Oper.semAt_none, hrun]; exact h⟩
theorem plainI {o : Oper} {a : Act} {w : World} {K : Act → World → Prop} (hr : ∀ r args w', (execOp a.eval o).run P w ≠ .ok (.row r args) w') (h : o.wp P a w K Q) : o.wpIn Fence.wide n P a w K Q := by
  refine ⟨fun _ _ => trivial, ?_⟩
  rw [show Fence.wide.round = none from rfl, Oper.semAt_none]
  unfold Oper.wp at h
  generalize (execOp a.eval o).run P w = r at h hr ⊢
  rcases r with ⟨x, w'⟩ | ⟨x, w'⟩
  · cases x with
    | value v => exact h
    | skip => exact h
    | defer d => exact h
    | enter f args => exact ⟨fun h => (by cases h), callsIn_wide.2 h⟩
    | row r args => exact absurd rfl (hr r args w')
    | _ => exact h.elim
  · cases x with
    | panic v => exact h
    | _ => exact h.elim
end
end Go.Proofs.Ytcebobcakiljhaa
