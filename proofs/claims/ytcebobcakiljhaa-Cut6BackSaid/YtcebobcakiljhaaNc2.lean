/-
  Contracts and lemmas on which the proofs of this seat stand (several texts in one). Conditions are each theorem's own.
-/
import Derived.Test.YtcebobcakiljhaaNc1
import Derived.Test.YtcebobcakiljhaaNa8
import Derived.Test.YtcebobcakiljhaaNa3
import Derived.Test.YtcebobcakiljhaaNa10
import Derived.Test.YtcebobcakiljhaaNa5
import Derived.Test.YtcebobcakiljhaaNa9

/-
  Rows of packets of IPv6; contract of cut6's Cut. Conditions are each theorem's own.
-/
namespace Go.Proofs.Ytcebobcakiljhaa
open Go.RowKit Go.Shelf
attribute [local go_sem] Oper.semAt_some

theorem listI_grow {n : Nat} {P : Program} {ops : Array Oper} {rest : List Oper} {o : Oper} {a : Act} {w w' : World} {Q : Exit → Act → World → Prop} {v : Value} (hg : o.guard = none) (hrun : (execOp a.eval o).run P w = .ok (.value v) w')
    (h : wpListIn Fence.wide n P ops Q rest (a.put o.dst v) w') : wpListIn Fence.wide n P ops Q (o :: rest) a w :=
  wpListIn_plain hg fun K hK => ⟨fun _ _ => trivial, by rw [show Fence.wide.round = none from rfl, Oper.semAt_none, hrun]; exact hK _ _ h⟩
theorem Kp6.loop {B l : Nat} {X : World} {r r' : Loop} (hr : X.heap[l]? = some (.loop r)) (hB : B ≤ l) : Kp6 B X (X.putObj l (.loop r')) := ⟨KeepS.loop hr, KeepP.loop (by omega)⟩
theorem info_v6 : (Try.prog.info? 45).map (fun i => (i.zero, i.size, i.bytes)) = some (some (v6v p6z none 0), 37, 88) := by kernel_rfl
theorem run_bs6 {o : Oper} {a : Act} {w : World} {x : Operand} {cs : Array Value} (ho : o.op = .buildSlice 46 1 #[(0, x)]) (hx : a.eval x = .agg cs) (hl : cs.size = 37) :
    (execOp a.eval o).run Try.prog w = .ok (.value (.slice (some ⟨w.heap.size, 0, none⟩) 1 1)) (w.alloc (.cells cs 45)) := by
  obtain ⟨i0, hi, hz0, hz1, hz2⟩ := info_parts info_v6
  have h := run_lit1 (P := Try.prog) w 46 45 i0 (v6v p6z none 0) cs 37 Try.underlying46 hi hz0 hz1 hl (by decide) (by decide)
  unfold execOp
  simp only [ho, List.map_toArray, List.map_cons, List.map_nil, hx, Sem.run_bind, h, Result.andThen_ok]
  rfl
theorem run_store6w {o : Oper} {a : Act} {w : World} {x y : Operand} {g : Nat} {t : TypeId} {cs old : Array Value} (ho : o.op = .store 45 x y) (hx : a.eval x = .pointer (some ⟨g, 0, none⟩)) (hy : a.eval y = .agg cs) (hg : w.heap[g]? = some (.cells old t (0, 0))) (hz : old.size = 37) (hl : cs.size = 37) (h1 : cs.all (·.oneCell') = true) :
    (execOp a.eval o).run Try.prog w = .ok .skip (w.setRow g cs) := by
  have hst := run_storeVar_row (P := Try.prog) w g t 45 old cs hg (by rw [hl]; kernel_rfl) (by rw [hz, hl]) h1
  unfold execOp
  simp only [ho, hx, hy, Instr.storeAt, Instr.sureAddr, Sem.run_bind, Sem.run_pure, Result.andThen_ok, hst]
theorem cells_new6 (X : World) (x : X6) : ∀ j u, (cl6 x)[j]? = some u → (X.alloc (.cells (v6a x.q x.A x.c) 45)).cell? ((⟨X.heap.size, 0, none⟩ : Addr).add j) = some u := fun j u hu => by
  rw [add_off, Nat.zero_add, World.cell?_alloc_new, ← Array.getElem?_toList]; simpa [v6a, cl6] using hu
/-- A slice of packets that owns its row, and whose packets own their lists. -/
def Row6 (V : World) (base : Nat) (v : Value) (l : List X6) : Prop := V.ownsRow base 45 37 v l.length (l.flatMap cl6) ∧ ∀ x ∈ l, Own6 V base x
theorem Row6.nil (V : World) (base : Nat) : Row6 V base (.slice none 0 0) [] := ⟨World.ownsRow_nil _ _ _ _, fun x h => by cases h⟩
theorem Row6.mark {V : World} {base D : Nat} {v : Value} {l : List X6} {o : Option (List Deferred)} (h : Row6 V base v l) (h2 : V.heap[D]? = some (.deferred o)) : Row6 (V.putObj D (.deferred none)) base v l :=
  ⟨ownsRow_putObj h.1 _ h2 rfl, fun x hx => ⟨(h.2 x hx).1, ownsRow_putObj (h.2 x hx).2 _ h2 rfl⟩⟩
theorem Row6.below {V Y : World} {base : Nat} {v : Value} {l : List X6} (h : Row6 V base v l) (hb : Below V.heap.size V Y) : Row6 Y base v l := ⟨own_below h.1 hb, fun x hx => (h.2 x hx).below hb⟩
/-- What a box holds while packets come; block r is not its row. -/
def InBox6 (V : World) (base b7 r : Nat) (pre : List X6) : Prop :=
  ∃ v, Boxed V b7 46 v ∧ V.ownsRow base 45 37 v pre.length (pre.flatMap cl6) ∧ (pre = [] → v = .slice none 0 0) ∧ v.ownBlock ≠ some r ∧ ∀ x ∈ pre, Own6 V base x
theorem InBox6.nil {V : World} {base b7 r : Nat} (h : Boxed V b7 46 (.slice none 0 0)) : InBox6 V base b7 r [] := ⟨_, h, World.ownsRow_nil _ _ _ _, fun _ => rfl, (by simp [Value.ownBlock]), fun x h => by cases h⟩
theorem InBox6.turn {V Y : World} {base b7 r : Nat} {pre : List X6} {row : Option Nat} (h : InBox6 V base b7 r pre) (hg : V.grownBy Y row) (hr : ∀ k, row = some k → ∃ o : Obj, V.heap[k]? = some o ∧ o.isCells = false) : InBox6 Y base b7 r pre := by
  obtain ⟨v, h1, h2, h3, h4, h5⟩ := h
  refine ⟨v, h1.kept hg (fun e' => ?_), h2.kept hg ?_, h3, h4, fun x hx => (h5 x hx).turn hg hr⟩
  · obtain ⟨o, ho, hc⟩ := hr b7 e'.symm
    rw [show V.heap[b7]? = _ from h1] at ho; cases ho; cases hc
  · rcases h2.2 with ⟨rfl, _⟩ | ⟨g, cap, cur, rfl, _, hgb, _⟩
    · exact .inl rfl
    · refine .inr fun e' => ?_
      obtain ⟨o, ho, hc⟩ := hr g (by simpa [Value.ownBlock] using e'.symm)
      rw [hgb] at ho; cases ho; cases hc
theorem InBox6.own2 {V Y : World} {base b7 r k : Nat} {pre : List X6} {cs : Array Value} (h : InBox6 V base b7 r pre) (hg : V.grownBy Y (some k)) (hk : k = r) (hc : V.heap[k]? = some (.cells cs 45 (0, 0))) : InBox6 Y base b7 r pre := by
  subst hk
  obtain ⟨v, h1, h2, h3, h4, h5⟩ := h
  have key : ∀ {v : Value} {n : Nat} {xs : List Value}, V.ownsRow base 5 1 v n xs → Y.ownsRow base 5 1 v n xs := fun {v n xs} h => by
    refine h.kept hg ?_
    rcases h.2 with ⟨rfl, _⟩ | ⟨g, cap, cur, rfl, _, hgb, _⟩
    · exact .inl rfl
    · refine .inr fun e' => ?_
      have e2 : g = k := by simpa [Value.ownBlock] using e'
      subst e2
      rw [hgb] at hc; cases hc
  refine ⟨v, h1.kept hg (fun e' => ?_), h2.kept hg (.inr h4), h3, h4, fun x hx => ⟨(h5 x hx).1, key (h5 x hx).2⟩⟩
  injection e' with e'
  subst e'
  have := (show V.heap[b7]? = _ from h1).symm.trans hc
  cases this
theorem fg6_len (q : P6) (id mtu : Int) : ∀ (f off : Nat), (fg6 q id mtu f off).length ≤ f
  | 0, _ => Nat.le_refl _
  | f + 1, off => by
    rw [fg6]; split
    · have := fg6_len q id mtu f (off + (st6 mtu).toNat); simp; omega
    · simp
theorem rst6_len (q : P6) (id mtu : Int) (off : Nat) : (rst6 q id mtu off).length ≤ q.dat.length + 1 := fg6_len q id mtu _ off
theorem chk6_len {q : P6} (h : chk6 q = 0) : q.dat.length ≤ 65535 := by
  unfold chk6 at h
  split at h
  · split at h
    · cases h
    · omega
  · cases h
set_option maxRecDepth 100000 in
set_option maxHeartbeats 4000000 in
theorem c14cut (q : P6) (A : Option Addr) (c : Nat) (id mtu : Int) (B : Nat) (w : World) (h6 : ok6 q) (hD : Arg w B A c q.dat) (hB0 : B ≤ w.heap.size) (hdl : q.dat.length ≤ 1000000) :
    Calls Try.prog 22 #[v6v q A c, .int .i64 id, .int .i64 mtu] w fun e w' => ∃ v l, e = .returned (.tuple #[v, .int .i64 (cutE6 q id mtu)]) ∧ Row6 w' w.heap.size v l ∧ l.map (·.q) = cutL6 q id mtu ∧ Below w.heap.size w w' := by
  have hTn : 46 ≠ 45 := nat_ne (by kernel_rfl)
  have hTuT : 5 ≠ 46 := nat_ne (by kernel_rfl)
  have hTuS : 5 ≠ 45 := nat_ne (by kernel_rfl)
  have hB : Below w.heap.size w (w.alloc (.cells (v6a q A c) 45)) := (Below.refl w.heap.size w).alloc (Nat.le_refl _) _
  have hrow := World.alloc_heap_new w (.cells (v6a q A c) 45)
  have hz : w.heap.size < (w.alloc (.cells (v6a q A c) 45)).heap.size := by simp
  rw [v6v_eq]
  refine (callsIn_wide (n := 4)).1 ?_
  refine callsIn_of_wp_marks Try.func22 rfl trivial ?_ rfl
  simp only [Try.ntmps22, List.size_toArray, List.length_cons, List.length_nil, Nat.reduceAdd, Nat.reduceSub, Array.replicate_succ, Array.replicate_zero, List.push_toArray, List.append_toArray, List.nil_append, List.cons_append]
  gi_upto_region 1 with fail
  obtain ⟨g, hg⟩ : ∃ g, g = w.heap.size := ⟨_, rfl⟩
  rw [← hg] at hrow ⊢
  have hgw : w.heap.size ≤ g := by omega
  generalize w.alloc (.cells (v6a q A c) 45) = W at *
  have hgW := heap_lt hrow
  have hAt := at6_of hrow
  clear hg
  by_cases h1 : mtu < 1280
  · have d1 : decide (mtu < 1280) = true := by simpa using h1
    have HE := Lib.hid (show cutE6 q id mtu = 1 by rw [cutE6, if_pos (.inl h1)])
    clear h1
    gi_wp2
    refine leaves_marks w.heap.size (fun Y => Below w.heap.size w Y) (fun Y D hY h1 h2 => hY.trans (belowK_b (w := w) (Nat.le_refl _) Y D _ _ h1 h2 rfl rfl))
      (fun Y hY => ⟨_, results_tmp2 rfl _ _ _, .slice none 0 0, [], by rw [HE.out]; rfl, Row6.nil _ _, by rw [cutL6, if_neg (by rw [HE.out]; decide)]; rfl, hY⟩) [] w.heap.size _ trivial hB
  · have d1 : decide (mtu < 1280) = false := by simpa using h1
    by_cases h2 : mtu > 65535
    · have d2 : decide (mtu > 65535) = true := by simpa using h2
      have HE := Lib.hid (show cutE6 q id mtu = 1 by rw [cutE6, if_pos (.inr (.inl h2))])
      clear h1 h2
      gi_wp2
      refine leaves_marks w.heap.size (fun Y => Below w.heap.size w Y) (fun Y D hY h1 h2 => hY.trans (belowK_b (w := w) (Nat.le_refl _) Y D _ _ h1 h2 rfl rfl))
        (fun Y hY => ⟨_, results_tmp2 rfl _ _ _, .slice none 0 0, [], by rw [HE.out]; rfl, Row6.nil _ _, by rw [cutL6, if_neg (by rw [HE.out]; decide)]; rfl, hY⟩) [] w.heap.size _ trivial hB
    · have d2 : decide (mtu > 65535) = false := by simpa using h2
      by_cases h3 : id < 0
      · have d3 : decide (id < 0) = true := by simpa using h3
        have HE := Lib.hid (show cutE6 q id mtu = 1 by rw [cutE6, if_pos (.inr (.inr (.inl h3)))])
        clear h1 h2 h3
        gi_wp2
        refine leaves_marks w.heap.size (fun Y => Below w.heap.size w Y) (fun Y D hY h1 h2 => hY.trans (belowK_b (w := w) (Nat.le_refl _) Y D _ _ h1 h2 rfl rfl))
          (fun Y hY => ⟨_, results_tmp2 rfl _ _ _, .slice none 0 0, [], by rw [HE.out]; rfl, Row6.nil _ _, by rw [cutL6, if_neg (by rw [HE.out]; decide)]; rfl, hY⟩) [] w.heap.size _ trivial hB
      · have d3 : decide (id < 0) = false := by simpa using h3
        by_cases h4 : id > 4294967295
        · have d4 : decide (id > 4294967295) = true := by simpa using h4
          have HE := Lib.hid (show cutE6 q id mtu = 1 by rw [cutE6, if_pos (.inr (.inr (.inr h4)))])
          clear h1 h2 h3 h4
          gi_wp2
          refine leaves_marks w.heap.size (fun Y => Below w.heap.size w Y) (fun Y D hY h1 h2 => hY.trans (belowK_b (w := w) (Nat.le_refl _) Y D _ _ h1 h2 rfl rfl))
            (fun Y hY => ⟨_, results_tmp2 rfl _ _ _, .slice none 0 0, [], by rw [HE.out]; rfl, Row6.nil _ _, by rw [cutL6, if_neg (by rw [HE.out]; decide)]; rfl, hY⟩) [] w.heap.size _ trivial hB
        · have d4 : decide (id > 4294967295) = false := by simpa using h4
          have HM : Hid (¬ (mtu < 1280 ∨ mtu > 65535 ∨ id < 0 ∨ id > 4294967295)) := Lib.hid (by omega)
          by_cases hk : chk6 q = 0
          · have HK := Lib.hid hk
            have HE0 := Lib.hid (show cutE6 q id mtu = 0 by rw [cutE6, if_neg HM.out, hk])
            have HCK := Lib.hid (cutE6_ok HE0.out)
            have HDL : Hid (q.dat.length ≤ 65535) := Lib.hid (chk6_len hk)
            clear h1 h2 h3 h4 hk
            by_cases hs : size6 q ≤ mtu
            · have s1 : decide (size6 q ≤ mtu) = true := by simpa using hs
              have HL := Lib.hid (show cutL6 q id mtu = [q] by rw [cutL6, if_pos HE0.out, if_pos hs])
              clear hs
              gi_upto_region 7 with (first
                | ((with_reducible show wpListIn _ _ _ _ _ (Oper.mk _ (Op.load 45 _) _ _ _ _ :: _) _ _); refine listI_val rfl (run_load_v6 rfl rfl (hAt.below x1 hgW) (v6l_len h6.1 h6.2)) ?_)
                | ((with_reducible show wpListIn _ _ _ _ _ (Oper.mk _ (Op.load 45 _) _ _ _ _ :: _) _ _); refine listI_val rfl (run_load_v6 rfl rfl hAt (v6l_len h6.1 h6.2)) ?_)
                | (refine ⟨trivial, ?_⟩; gi_at_call 44; refine (callsIn_wide.2 (c6check q A c _ h6.1 h6.2 hdl)).mono ?_; rintro e w1 ⟨rfl, x1⟩; rw [HK.out])
                | (refine ⟨trivial, ?_⟩; gi_at_call 28; refine (callsIn_wide.2 (c6size q A c _ h6.1 h6.2 hdl)).mono ?_; rintro e w2 ⟨rfl, x2⟩))
              have hgz1 := Nat.lt_of_lt_of_le hgW x1.size
              have hrow2 := (x2.block g hgz1).trans ((x1.block g hgW).trans hrow)
              have hB2 := (hB.trans (x1.mono hB.size)).trans (x2.mono (by have := hB.size; have := x1.size; omega))
              have hg2 := heap_lt hrow2
              have hD2 := hD.below (hB2.mono hB0)
              have k36 := (at6_of hrow2).dat h6.1 h6.2
              clear hrow hAt x1 x2
              gi_upto_region 8 with (refine ⟨trivial, ?_⟩; gi_at_call 37; refine (callsIn_wide.2 (clone_any A q.dat c B w2 hD2 (by have := hB2.size; omega) (by omega))).mono ?_; rintro e w3 ⟨v3, rfl, m3⟩; obtain ⟨P, p, rfl, g3, o3, y3⟩ := made_shape m3; have hrow3 := (y3.block g hg2).trans hrow2; have c36 := (at6_of hrow3).dat h6.1 h6.2; have f36 := heap_frozen hrow3 36)
              have hrow4 := heap_setCell_same w3 g 36 _ _ (.slice P q.dat.length p) hrow3
              rw [set_dat q A P c p q.dat h6.1 h6.2] at hrow4
              have hB4 := (hB2.trans (y3.mono hB2.size)).setCell (p := ⟨g, 36, none⟩) hgw (.slice P q.dat.length p)
              have o4 := own_setCellB (i := 36) (u := .slice P q.dat.length p) (own_base (base := w.heap.size) o3 hB2.size) hrow3 (nat_ne (by kernel_rfl))
              clear c36 f36 k36 hrow3 o3 g3 m3
              have hrow5 : (w3.setCell ⟨g, 36, none⟩ (.slice P q.dat.length p)).heap[g]? = some (.cells (v6a q P p) 45 (0, 0)) := hrow4
              clear hrow4
              generalize w3.setCell ⟨g, 36, none⟩ (.slice P q.dat.length p) = V at *
              have hAtV := at6_of hrow5
              gi_wp2_with (first
                | ((with_reducible show wpListIn _ _ _ _ _ (Oper.mk _ (Op.load 45 _) _ _ _ _ :: _) _ _); refine listI_val rfl (run_load_v6 rfl rfl hAtV (v6l_len h6.1 h6.2)) ?_)
                | ((with_reducible show wpListIn _ _ _ _ _ (Oper.mk _ (Op.buildSlice _ _ _) _ _ _ _ :: _) _ _); refine listI_grow rfl (run_bs6 (cs := v6a q P p) rfl rfl (v6a_size h6)) ?_))
              have hNew : Below V.heap.size V (V.alloc (.cells (v6a q P p) 45)) := (Below.refl _ _).alloc (Nat.le_refl _) _
              have rowN := World.ownsRow_lit (base := w.heap.size) (e := 45) (size := 37) V (v6a q P p) 1 hB4.size (by decide) (v6a_size h6)
              have eN : [(⟨q, P, p, h6⟩ : X6)].flatMap cl6 = (v6a q P p).toList := by simp [cl6, v6a]
              rw [← eN] at rowN
              have hN6 : Row6 (V.alloc (.cells (v6a q P p) 45)) w.heap.size (.slice (some ⟨V.heap.size, 0, none⟩) 1 1) [⟨q, P, p, h6⟩] := ⟨rowN, fun x hx => by rw [List.mem_singleton.1 hx]; exact ⟨h6, own_below o4 hNew⟩⟩
              refine leaves_marks w.heap.size (fun Y => Row6 Y w.heap.size (.slice (some ⟨V.heap.size, 0, none⟩) 1 1) [⟨q, P, p, h6⟩] ∧ Below w.heap.size w Y) (fun Y D hY h1 h2 => ⟨hY.1.mark h2, hY.2.trans (belowK_b (w := w) (Nat.le_refl _) Y D _ _ (by omega) h2 rfl rfl)⟩)
                (fun Y hY => ⟨_, results_tmp2 rfl _ _ _, _, _, by rw [HE0.out]; rfl, hY.1, by rw [HL.out]; rfl, hY.2⟩) [] w.heap.size _ trivial ⟨hN6, hB4.trans (hNew.mono hB4.size)⟩
            · have s1 : decide (size6 q ≤ mtu) = false := by simpa using hs
              have HS0 := Lib.hid hs
              clear hs
              gi_upto_region 10 with (first
                | ((with_reducible show wpListIn _ _ _ _ _ (Oper.mk _ (Op.load 45 _) _ _ _ _ :: _) _ _); refine listI_val rfl (run_load_v6 rfl rfl (hAt.below x1 hgW) (v6l_len h6.1 h6.2)) ?_)
                | ((with_reducible show wpListIn _ _ _ _ _ (Oper.mk _ (Op.load 45 _) _ _ _ _ :: _) _ _); refine listI_val rfl (run_load_v6 rfl rfl hAt (v6l_len h6.1 h6.2)) ?_)
                | (refine ⟨trivial, ?_⟩; gi_at_call 44; refine (callsIn_wide.2 (c6check q A c _ h6.1 h6.2 hdl)).mono ?_; rintro e w1 ⟨rfl, x1⟩; rw [HK.out])
                | (refine ⟨trivial, ?_⟩; gi_at_call 28; refine (callsIn_wide.2 (c6size q A c _ h6.1 h6.2 hdl)).mono ?_; rintro e w2 ⟨rfl, x2⟩))
              have hgz1 := Nat.lt_of_lt_of_le hgW x1.size
              have hrow2 := (x2.block g hgz1).trans ((x1.block g hgW).trans hrow)
              have hB2 := (hB.trans (x1.mono hB.size)).trans (x2.mono (by have := hB.size; have := x1.size; omega))
              have hg2 := heap_lt hrow2
              have hbx := Boxed.new w2 46 (.slice none 0 0)
              have hY0 : Below w2.heap.size w2 (w2.alloc (.cells #[.slice none 0 0] 46)) := (Below.refl _ _).alloc (Nat.le_refl _) _
              have hBY := hB2.trans (hY0.mono hB2.size)
              have hAtX := at6_of ((hY0.block g hg2).trans hrow2)
              have hYz : w2.heap.size < (w2.alloc (.cells #[.slice none 0 0] 46)).heap.size := by simp
              obtain ⟨b7, hb7e⟩ : ∃ b, b = w2.heap.size := ⟨_, rfl⟩
              rw [← hb7e] at hbx hYz ⊢
              have hb7 : w.heap.size ≤ b7 := by rw [hb7e]; exact hB2.size
              generalize w2.alloc (.cells #[.slice none 0 0] 46) = Y at *
              clear hY0 hAt hrow hrow2 hB2 x1 x2 hb7e hg2
              gi_wp2_with (first
                | ((with_reducible show wpListIn _ _ _ _ _ (Oper.mk _ (Op.load 45 _) _ _ _ _ :: _) _ _); refine listI_val rfl (run_load_v6 rfl rfl hAtX (v6l_len h6.1 h6.2)) ?_)
                | (refine ⟨trivial, ?_⟩; gi_at_call 45; refine (callsIn_wide.2 (frags6_any q A c id mtu w.heap.size B _ HCK.out.1 h6 (hD.below (hBY.mono hB0)) hB0 (by omega))).mono ?_; rintro e w3 ⟨Bp, Br, Bi, Bs, rfl, x3, hseq⟩))
              have hz3 := x3.size
              have hbx3 := Boxed.below hbx x3 (by omega)
              have hB3 : Below w.heap.size w w3 := hBY.trans (x3.mono (by omega))
              clear hbx hAtX
              refine range_box (by omega) 10 45 (gf := 62) (lb := #[.pointer (some ⟨Bp, 0, none⟩), .pointer (some ⟨Br, 0, none⟩), .pointer (some ⟨Bi, 0, none⟩), .pointer (some ⟨Bs, 0, none⟩)]) (cells := fun x => v6a x.q x.A x.c) rfl (enters_of Try.func62 (by kernel_rfl) rfl)
                (hseq (4 - 1) (by omega)) Kp6.trans (fun V l r r' hl hr => Kp6.loop hr (by omega)) (Below.refl _ _) (fun _ => rfl)
                (fun pre x V l r r' h _ hl => ⟨h.1, h.2.loop hl⟩)
                (fun pre V => InBox6 V w.heap.size b7 (w3.heap.size + 2) pre ∧ Below w.heap.size w V)
                (fun pre V Y r hs hg hr => ⟨hs.1.turn hg (fun k e => (hr k e).2), below_keep hs.2 hg hr (by omega) (Nat.le_refl _)⟩)
                (fun pre V Y k cs hs hg hk hc => ⟨hs.1.own2 hg hk hc, hs.2.grown hg hs.2.size (fun j e => by cases e; omega)⟩)
                ⟨InBox6.nil hbx3, hB3⟩
                (fun pre x V o h => ⟨h.1, h.2.below ((Below.refl _ V).alloc (Nat.le_refl _) o)⟩) (fun V o hz => Kp6.of_below ((Below.refl _ V).alloc (Nat.le_refl _) o) (by omega)) ?assign ?body ?done
              case assign =>
                intro l x V K hK
                dsimp only [enc6] at hK ⊢
                gi_wp2_with ((with_reducible show wpListIn _ _ _ _ _ (Oper.mk _ (Op.store 45 _ _) _ _ _ _ :: _) _ _); refine listR_skip rfl (fun c h => by cases h) (run_store6w (cs := v6a x.q x.A x.c) rfl rfl rfl (World.alloc_heap_new V _) rfl (v6a_size x.h6) (v6a_one _ _ _)) ?_; rw [World.setRow_alloc_new])
                simp [Act.put] at hK ⊢
                exact hK
              case body =>
                rintro l pre x b X ⟨hin, hBX⟩ ⟨⟨more, hmore⟩, hown⟩ hzX hb
                dsimp only [enc6]
                have hpl : pre.length < 65537 := by
                  have h1 := rst6_len q id mtu 0
                  have h2 := congrArg List.length hmore
                  rw [List.length_append, List.length_cons, List.length_map] at h2
                  have := HDL.out; omega
                obtain ⟨v, hvX, hoX, hnX, hrX, haX⟩ := hin
                obtain ⟨Av, cv, rfl⟩ := own_slice hoX
                have hcv := hvX.cell
                have hfv := hvX.frozen
                have hatb := at6_of hb
                have hx6 := hown.1
                obtain ⟨i0, hi, hz0, hz1, hz2'⟩ := info_parts info_v6
                have hnv : Value.slice Av pre.length cv = .slice none 0 0 ∨ 0 < pre.length := by
                  rcases Nat.eq_zero_or_pos pre.length with h0 | h0
                  · exact .inl (hnX (List.eq_nil_of_length_eq_zero h0))
                  · exact .inr h0
                have hB7 : w.heap.size ≤ b7 := hb7
                go_frame
                gi_wp2_with (first
                  | ((with_reducible show wpListIn _ _ _ _ _ (Oper.mk _ (Op.load 45 _) _ _ _ _ :: _) _ _); refine listR_val rfl (fun c h => by cases h) (run_load_v6 rfl rfl hatb (v6l_len hx6.1 hx6.2)) ?_)
                  | ((with_reducible show wpListIn _ _ _ _ _ (Oper.mk _ (Op.buildSlice _ _ _) _ _ _ _ :: _) _ _); refine listR_grow rfl (fun c h => by cases h) (run_bs6 (cs := v6a x.q x.A x.c) rfl rfl (v6a_size hx6)) ?_)
                  | (gi_at_builtin; refine wpListIn_append_one _ rfl _ _ 46 rfl w.heap.size 45 i0 (v6v p6z none 0) 37 88 Try.underlying46 hi hz0 hz1 hz2' rfl (by decide) _ pre.length (pre.flatMap cl6) rfl (hoX.alloc _) hnv ⟨X.heap.size, 0, none⟩ 1 (cl6 x) rfl (cl6_len hx6) (cells_new6 X x) (cl6_one x) (by unfold maxLen; omega) (by omega) (by have := hBX.size; simp; omega) ?_; intro v' w' hown' hgrow hkeep hblk; obtain ⟨q1, q2, q3, q4, q5⟩ := Boxed.appended hvX hTn hoX hBX.size hB7 hown' hgrow; have qc := q1.cell; have qf := q1.frozen; obtain ⟨A9, c9, rfl⟩ := own_slice hown'))
                have hKS : KeepS 45 46 37 X (w'.setCell ⟨b7, 0, none⟩ (.slice A9 (pre.length + 1) c9)) := ⟨q5.size, fun k cs ty fr hk h1 h2 => by
                  have hk1 : (X.alloc (.cells (v6a x.q x.A x.c) 45)).heap[k]? = some (.cells cs ty fr) := (Below.heap_alloc X _ k (heap_lt hk)).trans hk
                  have hne : k ≠ b7 := fun e => by
                    subst e
                    have := (show X.heap[k]? = _ from hvX).symm.trans hk
                    simp at this
                    exact h1 this.2.1.symm
                  exact (Below.heap_setCell _ _ _ k hne).trans ((hkeep k cs ty fr hk1 h2).trans (hk1.trans hk.symm))⟩
                refine ⟨q4.from _, ⟨hKS, KeepP.of_below q5 (fun k hk => Nat.lt_of_lt_of_le hk hB0)⟩, ⟨_, q2, ?_, fun e => absurd e (by simp), ?_, ?_⟩, hBX.trans q5⟩
                · rw [List.length_append, List.flatMap_append, List.flatMap_cons, List.flatMap_nil, List.append_nil]; exact q3
                · rcases hblk with e | e
                  · rw [e]; exact hrX
                  · rw [e]; intro e'; injection e' with e'; rw [World.size_alloc] at e'; omega
                · intro y hy
                  rcases List.mem_append.1 hy with hy | hy
                  · exact (haX y hy).keep hKS hTuT hTuS
                  · rw [List.mem_singleton.1 hy]; exact hown.keep hKS hTuT hTuS
              case done =>
                rintro D xs X hD2 hS ⟨⟨v, hvX, hoX, hnX, hrX, haX⟩, hBX⟩ hK
                have hm1 : Marks w3.heap.size X.heap.size [{ target := .collected D, args := #[] }] X := (Marks.push (hi := D) (ds := []) trivial (Nat.le_refl _) hD2 hK).more (heap_lt hK)
                obtain ⟨Av, cv, rfl⟩ := own_slice hoX
                have hcv := hvX.cell
                gi_wp2
                refine leaves_marks w3.heap.size (fun Y => Row6 Y w.heap.size (.slice Av xs.length cv) xs ∧ Below w.heap.size w Y) (fun Y D hY h1 h2 => ⟨hY.1.mark h2, hY.2.trans (belowK_b (w := w) (Nat.le_refl _) Y D _ _ (by omega) h2 rfl rfl)⟩)
                  (fun Y hY => ⟨_, results_tmp2 rfl _ _ _, _, xs, by rw [HE0.out]; rfl, hY.1, ?_, hY.2⟩) _ _ _ hm1 ⟨⟨hoX, haX⟩, hBX⟩
                rw [cutL6, if_pos HE0.out, if_neg (by have := HS0.out; omega)]; exact hS
          · have HE := Lib.hid (show cutE6 q id mtu = chk6 q by rw [cutE6, if_neg HM.out])
            have HN := Lib.hid hk
            have dk : (chk6 q != 0) = true := by simpa using hk
            clear h1 h2 h3 h4 hk
            gi_wp2_with (first
              | ((with_reducible show wpListIn _ _ _ _ _ (Oper.mk _ (Op.load 45 _) _ _ _ _ :: _) _ _); refine listI_val rfl (run_load_v6 rfl rfl hAt (v6l_len h6.1 h6.2)) ?_)
              | (refine ⟨trivial, ?_⟩; gi_at_call 44; refine (callsIn_wide.2 (c6check q A c _ h6.1 h6.2 hdl)).mono ?_; rintro e w1 ⟨rfl, x1⟩))
            refine leaves_marks w.heap.size (fun Y => Below w.heap.size w Y) (fun Y D hY h1 h2 => hY.trans (belowK_b (w := w) (Nat.le_refl _) Y D _ _ h1 h2 rfl rfl))
              (fun Y hY => ⟨_, results_tmp2 rfl _ _ _, .slice none 0 0, [], by rw [HE.out]; rfl, Row6.nil _ _, by rw [cutL6, if_neg (by rw [HE.out]; exact HN.out)]; rfl, hY⟩) [] w.heap.size _ trivial (hB.trans (x1.mono hB.size))
end Go.Proofs.Ytcebobcakiljhaa

/-
  Contracts of cut6's Part, and of the document's of layer 14. Conditions are each theorem's own.
-/
namespace Go.Proofs.Ytcebobcakiljhaa
open Go.RowKit Go.Shelf

theorem fr_store {ops : Array Oper} {rest : List Oper} {x y : Operand} {ty : TypeId} {pos : String} {af : Array Edge} {a : Act} {w : World} {Q : Exit → Act → World → Prop}
    {g : Nat} {t : TypeId} {cs old : Array Value} (hx : a.eval x = .pointer (some ⟨g, 0, none⟩)) (hy : a.eval y = .agg cs) (hg : w.heap[g]? = some (.cells old t (0, 0))) (ho : old.size = 4) (hl : cs.size = 4) (h1 : cs.all (·.oneCell') = true)
    (h : wpList Try.prog ops Q rest (a.put none undef) (w.setRow g cs)) : wpList Try.prog ops Q (⟨none, .store 51 x y, ty, pos, af, none⟩ :: rest) a w :=
  wpList_plain rfl fun _ hK => wp_store_row 51 x y rfl g cs hx hy t old hg (by rw [hl]; kernel_rfl) (by rw [ho, hl]) h1 (hK _ _ h)
theorem fr_store_new {ops : Array Oper} {rest : List Oper} {x y : Operand} {ty : TypeId} {pos : String} {af : Array Edge} {a : Act} {w : World} {Q : Exit → Act → World → Prop}
    {t : TypeId} {cs old : Array Value} (hx : a.eval x = .pointer (some ⟨w.heap.size, 0, none⟩)) (hy : a.eval y = .agg cs) (ho : old.size = 4) (hl : cs.size = 4) (h1 : cs.all (·.oneCell') = true)
    (h : wpList Try.prog ops Q rest (a.put none undef) (w.alloc (.cells cs t))) : wpList Try.prog ops Q (⟨none, .store 51 x y, ty, pos, af, none⟩ :: rest) a (w.alloc (.cells old t)) :=
  fr_store hx hy (World.alloc_heap_new w _) ho hl h1 (by rw [World.setRow_alloc_new]; exact h)
theorem prsG_iff (b : List UInt8) : prsG b = 0 ↔ 8 ≤ b.length := by
  unfold prsG; split <;> simp <;> omega
theorem short_F {b : List UInt8} (h : ¬ 8 ≤ b.length) : prsF b = frz ∧ rstF b = [] := ⟨by rw [prsF, if_pos (by omega)], by rw [rstF, if_pos (by omega)]⟩
set_option maxRecDepth 100000 in
set_option maxHeartbeats 1000000 in
theorem c14part (q : P6) (A : Option Addr) (c B : Nat) (w : World) (h6 : ok6 q) (hD : Arg w B A c q.dat) (hB0 : B ≤ w.heap.size) (hdl : q.dat.length ≤ 1000000) :
    Calls Try.prog 25 #[v6v q A c] w fun e w' => ∃ P p, e = .returned (.tuple #[frv (prtF q), .slice P (prtB q).length p, .bool (prtO q)]) ∧ Arg w' w'.heap.size P p (prtB q) ∧ Below w.heap.size w w' := by
  have hTu : 51 ≠ 5 := nat_ne (by kernel_rfl)
  have hB : Below w.heap.size w ((w.alloc (.cells (v6a q A c) 45)).alloc (.cells (fra frz) 51)) := ((Below.refl w.heap.size w).alloc (Nat.le_refl _) _).alloc (by simp) _
  have hU : ((w.alloc (.cells (v6a q A c) 45)).alloc (.cells (fra frz) 51)).heap[w.heap.size]? = some (.cells (v6a q A c) 45 (0, 0)) := (Below.heap_alloc (w.alloc (.cells (v6a q A c) 45)) _ w.heap.size (by simp)).trans (World.alloc_heap_new w _)
  have hR : ((w.alloc (.cells (v6a q A c) 45)).alloc (.cells (fra frz) 51)).heap[w.heap.size + 1]? = some (.cells (fra frz) 51 (0, 0)) := by
    have := World.alloc_heap_new (w.alloc (.cells (v6a q A c) 45)) (.cells (fra frz) 51)
    rwa [World.size_alloc] at this
  rw [v6v_eq]
  go_enter Try.func25, Try.ntmps25
  go_upto_region 1 with fail
  rw [show #[Value.int .i64 0, .int .i64 0, .int .i64 0, .bool false] = fra frz from rfl]
  generalize (w.alloc (.cells (v6a q A c) 45)).alloc (.cells (fra frz) 51) = W at *
  have hz : w.heap.size + 1 < W.heap.size := heap_lt hR
  have kn := (at6_of hU).next
  have kd := (at6_of hU).dat h6.1 h6.2
  have hD1 := hD.below (hB.mono hB0)
  by_cases hn : q.next = 44
  · have dn : (q.next != 44) = false := by rw [hn]; rfl
    have HPF : Hid (prsF q.dat = prtF q) := Lib.hid (by rw [prtF, if_pos hn])
    have HB : Hid (prtB q = rstF q.dat) := Lib.hid (by rw [prtB, if_pos hn])
    obtain ⟨F1, hF1⟩ : ∃ F1, F1 = prtF q := ⟨_, rfl⟩
    have HF := Lib.hid hF1.symm
    rw [← hF1] at HPF
    obtain ⟨G, hG⟩ : ∃ G, G = prsG q.dat := ⟨_, rfl⟩
    have HPG := Lib.hid hG.symm
    have HO : Hid (prtO q = (G == 0)) := Lib.hid (by
      rw [prtO, decide_eq_true hn, Bool.true_and, hG, Bool.eq_iff_iff, decide_eq_true_iff, beq_iff_eq]; exact (prsG_iff _).symm)
    clear hF1 hG hn
    go_upto_region 4 with (first
      | (go_at_call 50; refine (c6pfrag A q.dat c B W hD1 (by omega) hdl).mono ?_; rintro e w2 ⟨v2, rfl, m2⟩; obtain ⟨P2, p2, rfl, g2, o2, y2⟩ := made_shape m2; rw [HPF.out, HPG.out])
      | ((with_reducible show wpList _ _ _ (Oper.mk _ (Op.store 51 _ _) _ _ _ _ :: _) _ _); refine fr_store_new (cs := fra F1) rfl rfl rfl rfl (fra_one _) ?_))
    have hR2 := (y2.block (w.heap.size + 1) (by omega)).trans hR
    have hX : Below w2.heap.size w2 (w2.alloc (.cells (fra F1) 51)) := (Below.refl _ _).alloc (Nat.le_refl _) _
    have hR3 := (hX.block (w.heap.size + 1) (heap_lt hR2)).trans hR2
    have hF3 := atF_of (World.alloc_heap_new w2 (.cells (fra F1) 51))
    have o3 := own_below o2 hX
    have hB3 := (hB.trans (y2.mono (by omega))).trans (hX.mono (by have := y2.size; omega))
    obtain ⟨b, hb⟩ : ∃ b, b = w2.heap.size := ⟨_, rfl⟩
    rw [← hb] at hF3 ⊢
    clear hb hR2 o2 g2 m2 hX
    generalize w2.alloc (.cells (fra F1) 51) = X at *
    have e1 := arg_own (own_setRowB (cs' := fra F1) o3 hR3 hTu)
    go_wp2_with (first
      | ((with_reducible show wpList _ _ _ (Oper.mk _ (Op.load 51 _) _ _ _ _ :: _) _ _); refine wpList_val rfl (load_frag rfl rfl hF3) ?_)
      | ((with_reducible show wpList _ _ _ (Oper.mk _ (Op.store 51 _ _) _ _ _ _ :: _) _ _); refine fr_store (g := w.heap.size + 1) (cs := fra F1) rfl rfl hR3 rfl rfl (fra_one _) ?_))
    exact bodyPost_ret (res3 rfl rfl (run_loadVar_row _ _ _ 51 (fra F1) _ _ (setRow_heap _ _ _ _ _ _ hR3) Try.underlying51 rfl (by kernel_rfl))) rfl ⟨P2, p2, by rw [HF.out, HO.out, HB.out]; rfl, by rw [HB.out]; exact e1, below_row hB3 (by omega)⟩
  · have dn : (q.next != 44) = true := by simpa using hn
    have HF : Hid (prtF q = frz) := Lib.hid (by rw [prtF, if_neg hn])
    have HB : Hid (prtB q = []) := Lib.hid (by rw [prtB, if_neg hn])
    have HO : Hid (prtO q = false) := Lib.hid (by rw [prtO, decide_eq_false hn]; rfl)
    clear hn
    go_wp2_with ((with_reducible show wpList _ _ _ (Oper.mk _ (Op.store 51 _ _) _ _ _ _ :: _) _ _); refine fr_store (g := w.heap.size + 1) (cs := fra frz) rfl rfl hR rfl rfl (fra_one _) ?_)
    exact bodyPost_ret (res3 rfl rfl (run_loadVar_row _ _ _ 51 (fra frz) _ _ (setRow_heap _ _ _ _ _ _ hR) Try.underlying51 rfl (by kernel_rfl))) rfl ⟨none, 0, by rw [HF.out, HO.out, HB.out]; rfl, by rw [HB.out]; exact Arg.nil _ _, below_row hB (by omega)⟩
set_option maxRecDepth 100000 in
set_option maxHeartbeats 1000000 in
theorem r14part (q : P6) (A : Option Addr) (c B : Nat) (w : World) (h6 : ok6 q) (hD : Arg w B A c q.dat) (hB0 : B ≤ w.heap.size) (hdl : q.dat.length ≤ 1000000) :
    Calls Try.prog 26 #[v6v q A c] w fun e w' => ∃ P p, e = .returned (.tuple #[frv (prtF q), .slice P (prtB q).length p, .bool (prtO q)]) ∧ Arg w' w'.heap.size P p (prtB q) ∧ Below w.heap.size w w' := by
  have hTu : 51 ≠ 5 := nat_ne (by kernel_rfl)
  have hB : Below w.heap.size w ((w.alloc (.cells (v6a q A c) 45)).alloc (.cells (fra frz) 51)) := ((Below.refl w.heap.size w).alloc (Nat.le_refl _) _).alloc (by simp) _
  have hU : ((w.alloc (.cells (v6a q A c) 45)).alloc (.cells (fra frz) 51)).heap[w.heap.size]? = some (.cells (v6a q A c) 45 (0, 0)) := (Below.heap_alloc (w.alloc (.cells (v6a q A c) 45)) _ w.heap.size (by simp)).trans (World.alloc_heap_new w _)
  have hR : ((w.alloc (.cells (v6a q A c) 45)).alloc (.cells (fra frz) 51)).heap[w.heap.size + 1]? = some (.cells (fra frz) 51 (0, 0)) := by
    have := World.alloc_heap_new (w.alloc (.cells (v6a q A c) 45)) (.cells (fra frz) 51)
    rwa [World.size_alloc] at this
  rw [v6v_eq]
  go_enter Try.func26, Try.ntmps26
  go_upto_region 1 with fail
  rw [show #[Value.int .i64 0, .int .i64 0, .int .i64 0, .bool false] = fra frz from rfl]
  generalize (w.alloc (.cells (v6a q A c) 45)).alloc (.cells (fra frz) 51) = W at *
  have hz : w.heap.size + 1 < W.heap.size := heap_lt hR
  have kn := (at6_of hU).next
  have kd := (at6_of hU).dat h6.1 h6.2
  have hD1 := hD.below (hB.mono hB0)
  obtain ⟨F1, hF1⟩ : ∃ F1, F1 = prsF q.dat := ⟨_, rfl⟩
  have HPF := Lib.hid hF1.symm
  obtain ⟨G, hG⟩ : ∃ G, G = prsG q.dat := ⟨_, rfl⟩
  have HPG := Lib.hid hG.symm
  clear hF1 hG
  go_upto_region 2 with (first
    | (go_at_call 51; refine (r6pfrag A q.dat c B W hD1 (by omega) hdl).mono ?_; rintro e w2 ⟨v2, rfl, m2⟩; obtain ⟨P2, p2, rfl, g2, o2, y2⟩ := made_shape m2; rw [HPF.out, HPG.out])
    | ((with_reducible show wpList _ _ _ (Oper.mk _ (Op.store 51 _ _) _ _ _ _ :: _) _ _); refine fr_store_new (cs := fra F1) rfl rfl rfl rfl (fra_one _) ?_))
  have hR2 := (y2.block (w.heap.size + 1) (by omega)).trans hR
  have hX : Below w2.heap.size w2 (w2.alloc (.cells (fra F1) 51)) := (Below.refl _ _).alloc (Nat.le_refl _) _
  have hU3 := (hX.block w.heap.size (by have := heap_lt hR2; omega)).trans ((y2.block w.heap.size (by omega)).trans hU)
  have hR3 := (hX.block (w.heap.size + 1) (heap_lt hR2)).trans hR2
  have hF3 := atF_of (World.alloc_heap_new w2 (.cells (fra F1) 51))
  have o3 := own_below o2 hX
  have hB3 := (hB.trans (y2.mono (by omega))).trans (hX.mono (by have := y2.size; omega))
  obtain ⟨b, hb⟩ : ∃ b, b = w2.heap.size := ⟨_, rfl⟩
  rw [← hb] at hF3 ⊢
  clear hb hR2 o2 g2 m2 hX
  generalize w2.alloc (.cells (fra F1) 51) = X at *
  have k3 : X.cell? ⟨w.heap.size, 2, none⟩ = some (.int .i64 q.next) := (at6_of hU3).next
  by_cases hn : q.next = 44 ∧ 8 ≤ q.dat.length
  · have dn : (q.next != 44) = false := by rw [hn.1]; rfl
    have dg : (G != 0) = false := by rw [← HPG.out, (prsG_iff _).2 hn.2]; rfl
    have HF : Hid (prtF q = F1) := Lib.hid (by rw [prtF, if_pos hn.1, HPF.out])
    have HB : Hid (prtB q = rstF q.dat) := Lib.hid (by rw [prtB, if_pos hn.1])
    have HO : Hid (prtO q = true) := Lib.hid (by rw [prtO, decide_eq_true hn.1, decide_eq_true hn.2]; rfl)
    clear hn
    have e1 := arg_own (own_setRowB (cs' := fra F1) o3 hR3 hTu)
    go_wp2_with (first
      | ((with_reducible show wpList _ _ _ (Oper.mk _ (Op.load 51 _) _ _ _ _ :: _) _ _); refine wpList_val rfl (load_frag rfl rfl hF3) ?_)
      | ((with_reducible show wpList _ _ _ (Oper.mk _ (Op.store 51 _ _) _ _ _ _ :: _) _ _); refine fr_store (g := w.heap.size + 1) (cs := fra F1) rfl rfl hR3 rfl rfl (fra_one _) ?_))
    exact bodyPost_ret (res3 rfl rfl (run_loadVar_row _ _ _ 51 (fra F1) _ _ (setRow_heap _ _ _ _ _ _ hR3) Try.underlying51 rfl (by kernel_rfl))) rfl ⟨P2, p2, by rw [HF.out, HO.out, HB.out]; rfl, by rw [HB.out]; exact e1, below_row hB3 (by omega)⟩
  · have HF : Hid (prtF q = frz) := Lib.hid (by
      by_cases h4 : q.next = 44
      · rw [prtF, if_pos h4, (short_F (fun h => hn ⟨h4, h⟩)).1]
      · rw [prtF, if_neg h4])
    have HB : Hid (prtB q = []) := Lib.hid (by
      by_cases h4 : q.next = 44
      · rw [prtB, if_pos h4, (short_F (fun h => hn ⟨h4, h⟩)).2]
      · rw [prtB, if_neg h4])
    have HO : Hid (prtO q = false) := Lib.hid (by
      by_cases h4 : q.next = 44
      · rw [prtO, decide_eq_true h4, decide_eq_false (fun h => hn ⟨h4, h⟩)]; rfl
      · rw [prtO, decide_eq_false h4]; rfl)
    by_cases h4 : q.next = 44
    · have dn : (q.next != 44) = false := by rw [h4]; rfl
      have dg : (G != 0) = true := by
        rw [← HPG.out, bne_iff_ne]; exact fun e => hn ⟨h4, (prsG_iff _).1 e⟩
      clear hn h4
      go_wp2_with ((with_reducible show wpList _ _ _ (Oper.mk _ (Op.store 51 _ _) _ _ _ _ :: _) _ _); refine fr_store (g := w.heap.size + 1) (cs := fra frz) rfl rfl hR3 rfl rfl (fra_one _) ?_)
      exact bodyPost_ret (res3 rfl rfl (run_loadVar_row _ _ _ 51 (fra frz) _ _ (setRow_heap _ _ _ _ _ _ hR3) Try.underlying51 rfl (by kernel_rfl))) rfl ⟨none, 0, by rw [HF.out, HO.out, HB.out]; rfl, by rw [HB.out]; exact Arg.nil _ _, below_row hB3 (by omega)⟩
    · have dn : (q.next != 44) = true := by simpa using h4
      clear hn h4
      go_wp2_with ((with_reducible show wpList _ _ _ (Oper.mk _ (Op.store 51 _ _) _ _ _ _ :: _) _ _); refine fr_store (g := w.heap.size + 1) (cs := fra frz) rfl rfl hR3 rfl rfl (fra_one _) ?_)
      exact bodyPost_ret (res3 rfl rfl (run_loadVar_row _ _ _ 51 (fra frz) _ _ (setRow_heap _ _ _ _ _ _ hR3) Try.underlying51 rfl (by kernel_rfl))) rfl ⟨none, 0, by rw [HF.out, HO.out, HB.out]; rfl, by rw [HB.out]; exact Arg.nil _ _, below_row hB3 (by omega)⟩
end Go.Proofs.Ytcebobcakiljhaa

/-
  Slices of packets of IPv6; contract of layer 14's helper of the statements: awake. Conditions are each theorem's own.
-/
namespace Go.Proofs.Ytcebobcakiljhaa
open Go.RowKit Go.Shelf

theorem run_load_v6o {o : Oper} {a : Act} {w : World} {x : Operand} {g i : Nat} {cs : List Value} (ho : o.op = .load 45 x) (hx : a.eval x = .pointer (some ⟨g, i, none⟩)) (hr : w.rangeAt g i cs) (hl : cs.length = 37) :
    (execOp a.eval o).run Try.prog w = .ok (.value (.agg cs.toArray)) w := by
  have h := run_loadVar_mid (P := Try.prog) w g i 45 cs _ hr Try.underlying45 rfl (by rw [hl]; kernel_rfl)
  unfold execOp
  simp only [ho, hx, Instr.loadAt, Instr.sureAddr, Sem.run_bind, Sem.run_pure, Result.andThen_ok, h]
/-- A slice of packets at A, whose cells, and whose lists' cells, lie below block B. -/
structure L6 (w : World) (B : Nat) (A : Option Addr) (l : List X6) : Prop where
  rd : RdS cl6 37 w B A l
  arg : ∀ x ∈ l, Arg w B x.A x.c x.q.dat
theorem L6.below {w w' : World} {B : Nat} {A : Option Addr} {l : List X6} (h : L6 w B A l) (hb : Below B w w') : L6 w' B A l := ⟨h.rd.below hb, fun x hx => (h.arg x hx).below hb⟩
theorem L6.more {w : World} {B B' : Nat} {A : Option Addr} {l : List X6} (h : L6 w B A l) (hB : B ≤ B') : L6 w B' A l := ⟨h.rd.more hB, fun x hx => (h.arg x hx).more hB⟩
theorem Row6.l6 {V : World} {base : Nat} {v : Value} {l : List X6} (h : Row6 V base v l) : ∃ A c, v = .slice A l.length c ∧ L6 V V.heap.size A l ∧ l.length ≤ c := by
  obtain ⟨A, c, e, hr, hc⟩ := own_rds (cl := cl6) h.1 rfl rfl (fun x _ => cl6_len x.h6)
  exact ⟨A, c, e, ⟨hr, fun x hx => (h.2 x hx).arg⟩, hc⟩
def qa14 : P6 := ⟨0, 0, 4, 0, nul, nul, List.replicate 1300 0⟩
theorem qa14_len : qa14.dat.length = 1300 := List.length_replicate
theorem qa14_ok : ok6 qa14 := ⟨rfl, rfl⟩
theorem qa14_cut : cutE6 qa14 7 1280 = 0 ∧ cutL6 qa14 7 1280 = [one6 qa14 7 0 1232 true, one6 qa14 7 1232 68 false] := by
  have hl := qa14_len
  have hE : cutE6 qa14 7 1280 = 0 := by
    rw [cutE6, if_neg (by decide), chk6, if_pos (by unfold arg6; decide), if_neg (by rw [hl]; decide)]
  have hs : (st6 1280).toNat = 1232 := by decide
  refine ⟨hE, ?_⟩
  rw [cutL6, if_pos hE, if_neg (by unfold size6; rw [hl]; decide), rst6_more (by decide) (by rw [hl]; decide), hs, rst6_last (by rw [hl]; decide), hl]
theorem qa14_part : prtF (one6 qa14 7 1232 68 false) = ⟨4, 1232, 7, false⟩ ∧ (prtB (one6 qa14 7 1232 68 false)).length = 68 ∧ prtO (one6 qa14 7 1232 68 false) = true := by
  have hl := qa14_len
  obtain ⟨p1, p2, p3, _⟩ := prt_one (n := 68) (cutE6_ok qa14_cut.1).1 false (off := 1232) (by rw [hl]; decide) (by decide)
  refine ⟨p1, ?_, p3⟩
  rw [p2, List.length_take, List.length_drop, hl]; decide
theorem cut14_awake (g : Nat) (w : World) (hg : w.heap[g]? = some (.cells (List.replicate 1300 (.int .u8 0)).toArray 5 (0, 0))) :
    Calls Try.prog 22 #[.agg #[.int .i64 0, .int .i64 0, .int .i64 4, .int .i64 0, .int .u8 0, .int .u8 0, .int .u8 0, .int .u8 0, .int .u8 0, .int .u8 0, .int .u8 0, .int .u8 0, .int .u8 0, .int .u8 0, .int .u8 0, .int .u8 0, .int .u8 0, .int .u8 0, .int .u8 0, .int .u8 0, .int .u8 0, .int .u8 0, .int .u8 0, .int .u8 0, .int .u8 0, .int .u8 0, .int .u8 0, .int .u8 0, .int .u8 0, .int .u8 0, .int .u8 0, .int .u8 0, .int .u8 0, .int .u8 0, .int .u8 0, .int .u8 0, .slice (some ⟨g, 0, none⟩) 1300 1300], .int .i64 7, .int .i64 1280] w fun e w' =>
      ∃ (b c : Nat) (x : X6), e = .returned (.tuple #[.slice (some ⟨b, 0, none⟩) 2 c, .int .i64 0]) ∧ w'.rangeAt b 37 (cl6 x) ∧ x.q = one6 qa14 7 1232 68 false ∧ Arg w' w'.heap.size x.A x.c x.q.dat ∧ 2 ≤ c ∧ Below w.heap.size w w' := by
  have hlen := qa14_len
  obtain ⟨h0, h1⟩ := qa14_cut
  have hD : Arg w w.heap.size (some ⟨g, 0, none⟩) 1300 qa14.dat := ⟨Rd.of_block hg (heap_lt hg) 0 (fun j hj => by
    rw [hlen] at hj
    rw [show byt qa14.dat j = 0 from byt_rep 1300 j, Nat.zero_add, List.getElem?_toArray, List.getElem?_replicate, if_pos hj]), Nat.le_of_eq hlen, fun e => by cases e⟩
  have key := c14cut qa14 (some ⟨g, 0, none⟩) 1300 7 1280 w.heap.size w qa14_ok hD (Nat.le_refl _) (by rw [hlen]; decide)
  have hv : v6v qa14 (some ⟨g, 0, none⟩) 1300 = .agg #[.int .i64 0, .int .i64 0, .int .i64 4, .int .i64 0, .int .u8 0, .int .u8 0, .int .u8 0, .int .u8 0, .int .u8 0, .int .u8 0, .int .u8 0, .int .u8 0, .int .u8 0, .int .u8 0, .int .u8 0, .int .u8 0, .int .u8 0, .int .u8 0, .int .u8 0, .int .u8 0, .int .u8 0, .int .u8 0, .int .u8 0, .int .u8 0, .int .u8 0, .int .u8 0, .int .u8 0, .int .u8 0, .int .u8 0, .int .u8 0, .int .u8 0, .int .u8 0, .int .u8 0, .int .u8 0, .int .u8 0, .int .u8 0, .slice (some ⟨g, 0, none⟩) 1300 1300] := by
    unfold v6v v6l
    rw [hlen]; rfl
  rw [hv] at key
  refine key.mono ?_
  rintro e w' ⟨v, l, rfl, hrow, hl, hb⟩
  rw [h0]
  rw [h1] at hl
  have hn : l.length = 2 := by rw [← List.length_map (f := fun x : X6 => x.q), hl]; rfl
  rcases l with _ | ⟨x0, _ | ⟨x1, _ | ⟨x2, l⟩⟩⟩
  · cases hn
  · cases hn
  · obtain ⟨A, c, rfl, hL, hc⟩ := hrow.l6
    obtain ⟨b, off, rfl, hbB, hr⟩ := hL.rd (by simp)
    obtain ⟨b', c', e'⟩ := ownsRow_succ (k := 1) hrow.1
    injection e' with e1 e2 e3
    injection e1 with e1
    injection e1 with e4 e5
    subst e5
    refine ⟨b, c, x1, rfl, ?_, ?_, hL.arg x1 (by simp), hc, hb⟩
    · have := hr 1 x1 rfl
      simpa using this
    · simp only [List.map_cons, List.map_nil, List.cons.injEq, and_true] at hl
      exact hl.2
  · simp only [List.length_cons] at hn; omega
set_option maxRecDepth 100000 in
set_option maxHeartbeats 1000000 in
theorem awake14_any (w : World) : Calls Try.prog 21 #[] w fun e w' => e = .returned (.bool true) ∧ Below w.heap.size w w' := by
  have hmk : ∀ W : World, (Instr.makeSlice 22 (.int .i64 1300) (.int .i64 1300)).run Try.prog W = .ok (.slice (some ⟨W.heap.size, 0, none⟩) 1300 1300) (W.alloc (.cells (List.replicate 1300 (.int .u8 0)).toArray 5)) := fun W => by
    rw [← made_rep]; exact run_make_row' 22 5 (.int .u8 0) 1 Try.underlying22 info_u8 rfl .i64 .i64 1300 (by omega) (by omega) W
  have hB : Below w.heap.size w (w.alloc (.cells (List.replicate 1300 (.int .u8 0)).toArray 5)) := (Below.refl _ w).alloc (Nat.le_refl _) _
  obtain ⟨p1, p2, p3⟩ := qa14_part
  go_enter Try.func21, Try.ntmps21
  go_upto_region 4 with (go_at_call 22; refine (cut14_awake w.heap.size _ (World.alloc_heap_new w _)).mono ?_; rintro e w1 ⟨b, c, x, rfl, hr, hq, hA, hc, x1⟩)
  have hB1 := hB.trans (x1.mono hB.size)
  have hl1 : x.q.dat.length ≤ 1000000 := by
    rw [hq]
    show (bldF _ ++ _).length ≤ _
    have := bldF_len (fh6 qa14 7 1232 false)
    have h2 : ((qa14.dat.drop 1232).take 68).length ≤ 68 := by rw [List.length_take]; exact Nat.min_le_left _ _
    rw [List.length_append]; omega
  rw [← hq] at p1 p2 p3
  have key := c14part x.q x.A x.c w1.heap.size w1 x.h6 hA (Nat.le_refl _) hl1
  rw [p1, p3] at key
  have HP2 := Lib.hid p2
  have hv : (Value.agg (cl6 x).toArray) = v6v x.q x.A x.c := rfl
  clear p1 p2 p3 hq hB x1
  go_upto_region 5 with (first
    | ((with_reducible show wpList _ _ _ (Oper.mk _ (Op.load 45 _) _ _ _ _ :: _) _ _); refine wpList_val (v := .agg (cl6 x).toArray) rfl (run_load_v6o rfl rfl hr (cl6_len x.h6)) ?_)
    | (go_at_call 25; refine key.mono ?_; rintro e w2 ⟨P, p, rfl, a2, x2⟩; rw [HP2.out])
    | ((with_reducible show wpList _ _ _ (Oper.mk _ (Op.store 51 _ _) _ _ _ _ :: _) _ _); refine fr_store_new (cs := fra ⟨4, 1232, 7, false⟩) rfl rfl rfl rfl (fra_one _) ?_))
  have hF := atF_of (World.alloc_heap_new w2 (.cells (fra ⟨4, 1232, 7, false⟩) 51))
  have f1 := hF.off
  have f2 := hF.id
  have f3 := hF.more
  have hX : Below w2.heap.size w2 (w2.alloc (.cells (fra ⟨4, 1232, 7, false⟩) 51)) := (Below.refl _ _).alloc (Nat.le_refl _) _
  have hB3 := (hB1.trans (x2.mono hB1.size)).trans (hX.mono (Nat.le_trans hB1.size x2.size))
  clear hF hX x2 a2 key
  generalize w2.alloc (.cells (fra ⟨4, 1232, 7, false⟩) 51) = X at *
  go_wp2
  go_ret
  exact ⟨rfl, hB3⟩
end Go.Proofs.Ytcebobcakiljhaa

/-
  Contract of the document's Cut of layer 14. Conditions are each theorem's own.
-/
namespace Go.Proofs.Ytcebobcakiljhaa
open Go.RowKit Go.Shelf

theorem fitsB_id (n : Int) : fitsB n 4 = decide (0 ≤ n ∧ n ≤ 4294967295) := by
  unfold fitsB
  rw [decide_eq_decide, show pw (4 : Int).toNat = 4294967296 from rfl]
  omega
set_option maxRecDepth 100000 in
set_option maxHeartbeats 8000000 in
theorem r14cut (q : P6) (A : Option Addr) (c : Nat) (id mtu : Int) (B : Nat) (w : World) (h6 : ok6 q) (hD : Arg w B A c q.dat) (hB0 : B ≤ w.heap.size) (hdl : q.dat.length ≤ 1000000) :
    Calls Try.prog 23 #[v6v q A c, .int .i64 id, .int .i64 mtu] w fun e w' => ∃ v l, e = .returned (.tuple #[v, .int .i64 (cutE6 q id mtu)]) ∧ Row6 w' w.heap.size v l ∧ l.map (·.q) = cutL6 q id mtu ∧ Below w.heap.size w w' := by
  have hTu : 45 ≠ 5 := nat_ne (by kernel_rfl)
  have hB : Below w.heap.size w (w.alloc (.cells (v6a q A c) 45)) := (Below.refl w.heap.size w).alloc (Nat.le_refl _) _
  have hrow := World.alloc_heap_new w (.cells (v6a q A c) 45)
  obtain ⟨g, hg⟩ : ∃ g, g = w.heap.size := ⟨_, rfl⟩
  rw [v6v_eq]
  go_enter Try.func23, Try.ntmps23
  go_upto_region 1 with fail
  generalize w.alloc (.cells (v6a q A c) 45) = W at *
  rw [← hg] at hrow ⊢
  have hwg : w.heap.size ≤ g := by omega
  have hgW := heap_lt hrow
  have hAt := at6_of hrow
  clear hg
  by_cases h1 : mtu < 1280
  · have d1 : decide (mtu < 1280) = true := by simpa using h1
    have HE := Lib.hid (show cutE6 q id mtu = 1 by rw [cutE6, if_pos (.inl h1)])
    clear h1
    go_wp2
    exact bodyPost_ret (results_tmp2 rfl _ _ _) rfl ⟨.slice none 0 0, [], by rw [HE.out]; rfl, Row6.nil _ _, by rw [cutL6, if_neg (by rw [HE.out]; decide)]; rfl, hB⟩
  · have d1 : decide (mtu < 1280) = false := by simpa using h1
    by_cases h2 : mtu > 65535
    · have d2 : decide (mtu > 65535) = true := by simpa using h2
      have HE := Lib.hid (show cutE6 q id mtu = 1 by rw [cutE6, if_pos (.inr (.inl h2))])
      clear h1 h2
      go_wp2
      exact bodyPost_ret (results_tmp2 rfl _ _ _) rfl ⟨.slice none 0 0, [], by rw [HE.out]; rfl, Row6.nil _ _, by rw [cutL6, if_neg (by rw [HE.out]; decide)]; rfl, hB⟩
    · have d2 : decide (mtu > 65535) = false := by simpa using h2
      by_cases h3 : 0 ≤ id ∧ id ≤ 4294967295
      · have HFT : Hid (fitsB id 4 = true) := Lib.hid (by rw [fitsB_id]; exact decide_eq_true h3)
        have HM : Hid (¬ (mtu < 1280 ∨ mtu > 65535 ∨ id < 0 ∨ id > 4294967295)) := Lib.hid (by omega)
        clear h1 h2 h3
        by_cases hk : chk6 q = 0
        · have HK := Lib.hid hk
          have HE0 := Lib.hid (show cutE6 q id mtu = 0 by rw [cutE6, if_neg HM.out, hk])
          have HCK := Lib.hid (cutE6_ok HE0.out)
          clear hk
          go_upto_region 6 with (first
            | ((with_reducible show wpList _ _ _ (Oper.mk _ (Op.load 45 _) _ _ _ _ :: _) _ _); refine wpList_val rfl (run_load_v6 rfl rfl hAt (v6l_len h6.1 h6.2)) ?_)
            | (go_at_call 46; refine (rfits_any _ _ _).mono ?_; rintro e w' ⟨rfl, rfl⟩; rw [HFT.out])
            | (go_at_call 47; refine (r6check q A c _ h6.1 h6.2 hdl).mono ?_; rintro e w1 ⟨rfl, x1⟩; rw [HK.out]))
          have hrow1 := (x1.block g hgW).trans hrow
          have hg1 := heap_lt hrow1
          have hB1 := hB.trans (x1.mono hB.size)
          have hD1 := (hD.below (hB1.mono hB0)).more (show B ≤ w1.heap.size by have := hB1.size; omega)
          have k36 := (at6_of hrow1).dat h6.1 h6.2
          clear hrow hAt x1 hB
          go_upto_region 7 with (at_builtin; refine append_rd rfl _ _ rfl w1.heap.size (.slice none 0 0) 0 [] rfl (World.ownsRow_nil _ _ _ _) w1.heap.size A c q.dat rfl hD1.none_ hD1.rd (by omega) (Nat.le_refl _) ?_; intro v2 w2 own2 grow2; obtain ⟨P2, p2, rfl, o2⟩ := own_made (bs := q.dat) own2 (Nat.zero_add _) (List.nil_append _); have y2 := (Below.refl w1.heap.size w1).grown grow2 (Nat.le_refl _) (fun k hk => by cases hk); have row2 := (y2.block g hg1).trans hrow1; have c36 := (at6_of row2).dat h6.1 h6.2; have f36 := heap_frozen row2 36)
          have hrow4 := heap_setCell_same w2 g 36 _ _ (.slice P2 q.dat.length p2) row2
          rw [set_dat q A P2 c p2 q.dat h6.1 h6.2] at hrow4
          have hrow4 : (w2.setCell ⟨g, 36, none⟩ (.slice P2 q.dat.length p2)).heap[g]? = some (.cells (v6a q P2 p2) 45 (0, 0)) := hrow4
          have hB4 := (hB1.trans (y2.mono hB1.size)).setCell (p := ⟨g, 36, none⟩) hwg (.slice P2 q.dat.length p2)
          have o4 := own_setCellB (i := 36) (u := .slice P2 q.dat.length p2) (own_base (base := g + 1) o2 hg1) row2 hTu
          clear row2 o2 own2 grow2 y2 hB1 hD1 c36 f36 k36 hrow1
          generalize w2.setCell ⟨g, 36, none⟩ (.slice P2 q.dat.length p2) = V at *
          have hgV := heap_lt hrow4
          by_cases hs : size6 q ≤ mtu
          · have s1 : decide (size6 q ≤ mtu) = true := by simpa using hs
            have HL := Lib.hid (show cutL6 q id mtu = [q] by rw [cutL6, if_pos HE0.out, if_pos hs])
            clear hs
            go_wp2_with (first
              | ((with_reducible show wpList _ _ _ (Oper.mk _ (Op.load 45 _) _ _ _ _ :: _) _ _); refine wpList_val rfl (run_load_v6 rfl rfl (at6_of ((x5.block g hgV).trans hrow4)) (v6l_len h6.1 h6.2)) ?_)
              | ((with_reducible show wpList _ _ _ (Oper.mk _ (Op.load 45 _) _ _ _ _ :: _) _ _); refine wpList_val rfl (run_load_v6 rfl rfl (at6_of hrow4) (v6l_len h6.1 h6.2)) ?_)
              | (go_at_call 48; refine (r6size q P2 p2 _ h6.1 h6.2 hdl).mono ?_; rintro e w5 ⟨rfl, x5⟩)
              | ((with_reducible show wpList _ _ _ (Oper.mk _ (Op.buildSlice _ _ _) _ _ _ _ :: _) _ _); refine wpList_growU rfl (run_bs6 (cs := v6a q P2 p2) rfl rfl (v6a_size h6)) ?_))
            have hB5 := hB4.trans (x5.mono hB4.size)
            have hNew : Below w5.heap.size w5 (w5.alloc (.cells (v6a q P2 p2) 45)) := (Below.refl _ _).alloc (Nat.le_refl _) _
            have rowN := World.ownsRow_lit (base := w.heap.size) (e := 45) (size := 37) w5 (v6a q P2 p2) 1 hB5.size (by decide) (v6a_size h6)
            have eN : [(⟨q, P2, p2, h6⟩ : X6)].flatMap cl6 = (v6a q P2 p2).toList := by simp [cl6, v6a]
            rw [← eN] at rowN
            exact bodyPost_ret (results_tmp2 rfl _ _ _) rfl ⟨_, [⟨q, P2, p2, h6⟩], by rw [HE0.out]; rfl, ⟨rowN, fun x hx => by rw [List.mem_singleton.1 hx]; exact ⟨h6, own_base (own_below (own_below o4 x5) hNew) (by omega)⟩⟩, by rw [HL.out]; rfl, hB5.trans (hNew.mono hB5.size)⟩
          · have s1 : decide (size6 q ≤ mtu) = false := by simpa using hs
            have HS0 : Hid (mtu < size6 q) := Lib.hid (by omega)
            clear hs
            go_upto_region 9 with (first
              | ((with_reducible show wpList _ _ _ (Oper.mk _ (Op.load 45 _) _ _ _ _ :: _) _ _); refine wpList_val rfl (run_load_v6 rfl rfl (at6_of hrow4) (v6l_len h6.1 h6.2)) ?_)
              | (go_at_call 48; refine (r6size q P2 p2 _ h6.1 h6.2 hdl).mono ?_; rintro e w5 ⟨rfl, x5⟩))
            have hBX : Below w.heap.size w w5 := hB4.trans (x5.mono hB4.size)
            have hrowX := (x5.block g hgV).trans hrow4
            have ownX := own_below o4 x5
            have hgX := heap_lt hrowX
            clear hrow4 o4 hB4 x5 hgV
            generalize w5 = X at *
            obtain ⟨L, hL⟩ : ∃ L, L = rst6 q id mtu 0 := ⟨_, rfl⟩
            have HL0 := Lib.hid hL
            have HLC : Hid (cutL6 q id mtu = L) := Lib.hid (by rw [cutL6, if_pos HE0.out, if_neg (by have := HS0.out; omega), hL])
            have HCU := Lib.hid HCK.out.1
            obtain ⟨lo, hi', id0, id1, n0, n1, hlen⟩ := HCK.out.1
            have hd0 : 0 < q.dat.length := by
              have h1 := HS0.out
              have h2 : size6 q = 40 + (q.dat.length : Int) := rfl
              omega
            have hst := st6_bd lo
            obtain ⟨z, hz⟩ : ∃ z, z = (st6 mtu).toNat := ⟨_, rfl⟩
            have hzi : st6 mtu = (z : Int) := by omega
            have hzq : (z : Int) = (mtu - 48) - (mtu - 48) % 8 := by rw [← hzi]; rfl
            have hzb : 8 ≤ z ∧ (z : Int) ≤ mtu - 48 ∧ z % 8 = 0 := by omega
            have HZ := Lib.hid hz
            have e5 : wrap64 (mtu - 48) = mtu - 48 := by unfold wrap64; omega
            have e6 : (mtu - 48).tdiv 8 = (mtu - 48) / 8 := Int.tdiv_eq_ediv_of_nonneg (by omega)
            have e7 : (mtu - 48) / 8 * 8 = (z : Int) := by omega
            have e8 : wrap64 ((mtu - 48) / 8 * 8) = (z : Int) := by rw [e7]; unfold wrap64; omega
            clear hL hst hz hzi hzq
            go_wp2
            go_loopw [9, 10] (fun t9 t10 wr => ∃ (vv : Value) (off : Nat) (pre : List X6), vv = t9 ∧ t10 = .int .i64 (off : Int) ∧ Below w.heap.size w wr ∧ wr.heap[g]? = some (.cells (v6a q P2 p2) 45 (0, 0)) ∧ wr.ownsRow (g + 1) 45 37 vv pre.length (pre.flatMap cl6) ∧ (∀ x ∈ pre, Own6 wr (g + 1) x) ∧
                wr.ownsRow (g + 1) 5 1 (.slice P2 q.dat.length p2) q.dat.length (row q.dat) ∧ off ≤ q.dat.length ∧
                ((Hid (L = pre.map (·.q) ++ rst6 q id mtu off) ∧ off < q.dat.length ∧ off % 8 = 0) ∨ (Hid (L = pre.map (·.q)) ∧ off = q.dat.length)))
              (fun _ t10 _ => q.dat.length - offV t10)
            case atStart => exact ⟨_, 0, [], rfl, rfl, hBX, hrowX, World.ownsRow_nil _ _ _ _, (fun x hx => by cases hx), ownX, Nat.zero_le _, .inl ⟨HL0, hd0, rfl⟩⟩
            case round =>
              obtain ⟨vv, off, pre, rfl, rfl, hbel, hrowp, hor, hax, ownP, hoff, hrun⟩ := hrel
              have hgw := heap_lt hrowp
              have kp := (at6_of hrowp).dat h6.1 h6.2
              rcases hrun with ⟨HLL, hN0, ho8⟩ | ⟨HLF, rfl⟩
              · have hpl : pre.length < 65537 := by
                  have h1 := rst6_len q id mtu 0
                  have h2 := congrArg List.length HLL.out
                  rw [List.length_append, List.length_map, HL0.out] at h2
                  omega
                have d0 : decide ((off : Int) < (q.dat.length : Int)) = true := by simp; omega
                have d0' : decide (off < q.dat.length) = true := by simp; omega
                by_cases hs : (q.dat.length : Int) - (off : Int) > mtu - 48
                · have HRS := Lib.hid (rst6_more (id := id) HCU.out.lo hs)
                  have d1 : decide (mtu - 48 < (q.dat.length : Int) - (off : Int)) = true := by simpa using hs
                  have d2 : decide ((q.dat.length : Int) - (off : Int) > mtu - 48) = true := by simpa using hs
                  have d5 : decide (mtu - 48 < ((q.dat.length - off : Nat) : Int)) = true := by simp; omega
                  obtain ⟨N, hN⟩ : ∃ N, N = z := ⟨_, rfl⟩
                  rw [← hN] at e7 e8 HZ
                  rw [← HZ.out] at HRS
                  have hoN : off + N ≤ q.dat.length := by omega
                  have hoN' : off + N < q.dat.length := by omega
                  have hN8 : 8 ≤ N ∧ N % 8 = 0 := by omega
                  clear hs hN
                  obtain ⟨F1, hF1⟩ : ∃ F1, F1 = fh6 q id off true := ⟨_, rfl⟩
                  have HF := Lib.hid hF1.symm
                  have HOK : Hid (okF F1) := Lib.hid (by rw [hF1]; exact okF_at HCU.out true hoff ho8)
                  obtain ⟨DZ, hDZ⟩ : ∃ DZ, DZ = (q.dat.drop off).take N := ⟨_, rfl⟩
                  have HDZ : Hid (DZ.length = N) := Lib.hid (by rw [hDZ, List.length_take, List.length_drop]; omega)
                  obtain ⟨H8, hH8⟩ : ∃ H8, H8 = bldF F1 := ⟨_, rfl⟩
                  have H8l : Hid (H8.length = 8) := Lib.hid (by rw [hH8]; exact bldF_eight HOK.out)
                  have HH := Lib.hid hH8.symm
                  obtain ⟨R, hR⟩ : ∃ R, R = H8 ++ DZ := ⟨_, rfl⟩
                  have HX : Hid (one6 q id off N true = { q with next := 44, dat := R }) := Lib.hid (by rw [hR, hDZ, hH8, hF1]; rfl)
                  have HR := Lib.hid hR
                  have HRl : Hid (R.length = 8 + N) := Lib.hid (by rw [hR, List.length_append, H8l.out, HDZ.out])
                  have HDD := Lib.hid hDZ
                  have hfr : (Value.agg #[.int .i64 q.next, .int .i64 (off : Int), .int .i64 id, .bool true]) = frv F1 := by rw [hF1]; rfl
                  have HW1 : Hid (IntKind.i64.wrap ((off : Int) + (N : Int)) = ((off + N : Nat) : Int)) := Lib.hid (by rw [IntWalk.i64_in _ (by omega)]; omega)
                  clear hDZ hF1 hH8 hR
                  go_upto_region 17 with (first
                    | ((with_reducible show wpList _ _ _ (Oper.mk _ (Op.load 45 _) _ _ _ _ :: _) _ _); refine wpList_val rfl (run_load_v6 rfl rfl (at6_of hrowp) (v6l_len h6.1 h6.2)) ?_)
                    | ((with_reducible show wpList _ _ _ (Oper.mk _ (Op.store 45 _ _) _ _ _ _ :: _) _ _); refine v6_store_new (cs := v6a q P2 p2) rfl rfl rfl (v6a_size h6) (v6a_one _ _ _) ?_))
                  have row16 := World.alloc_heap_new wr (.cells (v6a q P2 p2) 45)
                  have hZ16 : Below wr.heap.size wr (wr.alloc (.cells (v6a q P2 p2) 45)) := (Below.refl _ wr).alloc (Nat.le_refl _) _
                  obtain ⟨b, hb⟩ : ∃ b, b = wr.heap.size := ⟨_, rfl⟩
                  rw [← hb] at row16 ⊢
                  have hbw : wr.heap.size ≤ b := by rw [hb]; exact Nat.le_refl _
                  have hgb : g < b := by rw [hb]; exact hgw
                  generalize wr.alloc (.cells (v6a q P2 p2) 45) = Z16 at *
                  clear hb
                  have hbz16 := heap_lt row16
                  have k2b := (at6_of row16).next
                  have f2b := heap_frozen row16 2
                  go_upto_region 18 with fail
                  have row17 := heap_setCell_same Z16 b 2 _ _ (.int .i64 44) row16
                  rw [set_next] at row17
                  have hZ17 := hZ16.setCell (p := ⟨b, 2, none⟩) hbw (.int .i64 44)
                  have hbz17 := heap_lt row17
                  clear k2b f2b row16 hZ16
                  generalize Z16.setCell ⟨b, 2, none⟩ (.int .i64 44) = V17 at *
                  have hrow17 := (hZ17.block g hgw).trans hrowp
                  have hg17 := heap_lt hrow17
                  have kn17 := (at6_of hrow17).next
                  go_upto_region 19 with (go_at_call 49; (refine (r6bfrag F1 V17).mono ?_; rintro e w18 ⟨v18, rfl, m18⟩; rw [HH.out] at m18; obtain ⟨P18, p18, rfl, g18, o18, y18⟩ := made_shape m18))
                  have hrow18 := (y18.block g hg17).trans hrow17
                  have k18 := (at6_of hrow18).dat h6.1 h6.2
                  have hP18 := own_below (own_below ownP hZ17) y18
                  have hAr18 := arg_own hP18
                  have hcap := hAr18.cap
                  have hne : ¬ p2 = off := by omega
                  have hAD : Arg w18 w18.heap.size (P2.map (fun x => x.add off)) (p2 - off) DZ := by
                    have h1 := hAr18.cut off (off + N) hoN
                    rw [cutA, if_neg hne] at h1
                    rwa [show (q.dat.take (off + N)).drop off = DZ by rw [HDD.out, List.drop_take, Nat.add_sub_cancel_left]] at h1
                  have hz18 := y18.size
                  go_upto_region 20 with (at_builtin; refine append_rd rfl _ _ rfl V17.heap.size (.slice P18 H8.length p18) H8.length (row H8) rfl o18 w18.heap.size (P2.map (fun x => x.add off)) (p2 - off) DZ (by rw [HDZ.out]; go_simp) hAD.none_ hAD.rd (by rw [H8l.out, HDZ.out]; omega) hz18 ?_; intro v19 w19 own19 grow19; have y19 := y18.grown grow19 hz18 (fun k hk => own_block_ge o18 k hk); obtain ⟨P19, p19, rfl, o19⟩ := own_made (bs := R) own19 (by rw [HR.out, List.length_append]) (by rw [HR.out, row_append]); have row19 := (y19.block b hbz17).trans row17; have c36 := (at6_of row19).dat h6.1 h6.2; have f36 := heap_frozen row19 36)
                  have row20 := heap_setCell_same w19 b 36 _ _ (.slice P19 R.length p19) row19
                  rw [set_dat { q with next := 44 } P2 P19 p2 p19 R h6.1 h6.2] at row20
                  have hx6 : ok6 ({ q with next := 44, dat := R } : P6) := h6
                  have row20 : (w19.setCell ⟨b, 36, none⟩ (.slice P19 R.length p19)).heap[b]? = some (.cells (v6a { q with next := 44, dat := R } P19 p19) 45 (0, 0)) := row20
                  have hx20 : Own6 (w19.setCell ⟨b, 36, none⟩ (.slice P19 R.length p19)) (g + 1) ⟨{ q with next := 44, dat := R }, P19, p19, hx6⟩ := ⟨hx6, own_setCellB (own_base o19 (by omega)) row19 hTu⟩
                  have hZ20 := (hZ17.trans (y19.mono hZ17.size)).setCell (p := ⟨b, 36, none⟩) hbw (.slice P19 R.length p19)
                  clear row19 row17 o19 own19 grow19 y19 hZ17 c36 f36 hAD hAr18 hP18 k18 hrow18 y18 o18 g18 m18 kn17 hrow17 hcap
                  generalize w19.setCell ⟨b, 36, none⟩ (.slice P19 R.length p19) = V20 at *
                  have hat20 := at6_of row20
                  have hor20 := own_below hor hZ20
                  have hax20 : ∀ x ∈ pre, Own6 V20 (g + 1) x := fun x hx => (hax x hx).below hZ20
                  have hP20 := own_below ownP hZ20
                  have hrp20 := (hZ20.block g hgw).trans hrowp
                  have hgz := hZ20.size
                  obtain ⟨i0, hi, hz0, hz1, hz2'⟩ := info_parts info_v6
                  go_upto_region 21 with (first
                    | ((with_reducible show wpList _ _ _ (Oper.mk _ (Op.load 45 _) _ _ _ _ :: _) _ _); refine wpList_val rfl (run_load_v6 rfl rfl hat20 (v6l_len hx6.1 hx6.2)) ?_)
                    | ((with_reducible show wpList _ _ _ (Oper.mk _ (Op.buildSlice _ _ _) _ _ _ _ :: _) _ _); refine wpList_growU rfl (run_bs6 (cs := v6a { q with next := 44, dat := R } P19 p19) rfl rfl (v6a_size hx6)) ?_)
                    | (at_builtin; refine wpList_append_own _ rfl _ _ 46 rfl (g + 1) 45 i0 (v6v p6z none 0) 37 88 Try.underlying46 hi hz0 hz1 hz2' rfl (by decide) _ pre.length (pre.flatMap cl6) rfl (hor20.alloc _) ⟨V20.heap.size, 0, none⟩ 1 1 (cl6 ⟨{ q with next := 44, dat := R }, P19, p19, hx6⟩) rfl (cl6_len hx6) (cells_new6 V20 ⟨{ q with next := 44, dat := R }, P19, p19, hx6⟩) (cl6_one _) (by unfold maxLen; omega) (by omega) (by simp; omega) ?_; intro v24 w24 hown24 hgrow24 hnil24))
                  have y20 : Below V20.heap.size V20 (V20.alloc (.cells (v6a { q with next := 44, dat := R } P19 p19) 45)) := (Below.refl _ _).alloc (Nat.le_refl _) _
                  have hP24 := own_keepT (own_below hP20 y20) (hor20.alloc _) hgrow24 hTu
                  have hax24 : ∀ x ∈ pre ++ [⟨{ q with next := 44, dat := R }, P19, p19, hx6⟩], Own6 w24 (g + 1) x := fun x hx => by
                    rcases List.mem_append.1 hx with hx | hx
                    · exact ⟨(hax20 x hx).1, own_keepT (own_below (hax20 x hx).2 y20) (hor20.alloc _) hgrow24 hTu⟩
                    · rw [List.mem_singleton.1 hx]; exact ⟨hx6, own_keepT (own_below hx20.2 y20) (hor20.alloc _) hgrow24 hTu⟩
                  have hrp24 : w24.heap[g]? = some (.cells (v6a q P2 p2) 45 (0, 0)) := (hgrow24.block g (by simp; omega) (fun e => by have := own_block_ge hor g e.symm; omega)).trans ((y20.block g (by omega)).trans hrp20)
                  have hB24 : Below w.heap.size w w24 := ((hbel.trans (hZ20.mono hbel.size)).trans (y20.mono (by have := hbel.size; omega))).grown hgrow24 (by have := hbel.size; simp; omega) (fun k hk => by have := own_block_ge hor k hk; omega)
                  have hrow24 : w24.ownsRow (g + 1) 45 37 v24 (pre.length + 1) ((pre ++ [(⟨{ q with next := 44, dat := R }, P19, p19, hx6⟩ : X6)]).flatMap cl6) := by
                    rw [List.flatMap_append, List.flatMap_cons, List.flatMap_nil, List.append_nil]; exact hown24
                  clear hown24 hgrow24 hnil24 y20 hor20 hax20 hP20 hrp20 hx20 row20 hat20
                  obtain ⟨A24, c24, rfl⟩ := own_slice hrow24
                  have HO2 := HW1
                  go_wp2
                  refine ⟨?rel, ?measure⟩
                  case rel =>
                    refine ⟨_, off + N, pre ++ [⟨{ q with next := 44, dat := R }, P19, p19, hx6⟩], rfl, ?_, hB24, hrp24, (by rw [List.length_append]; exact hrow24), hax24, hP24, hoN, ?_⟩
                    · first | rfl | (congr 1; omega) | simp
                    · exact .inl ⟨Lib.hid (by rw [HLL.out, HRS.out, HX.out, List.map_append, List.append_assoc]; rfl), by omega, by omega⟩
                  case measure => simp [offV]; omega
                · have HRS := Lib.hid (rst6_last (id := id) hs)
                  have d1 : decide (mtu - 48 < (q.dat.length : Int) - (off : Int)) = false := by simpa using hs
                  have d2 : decide ((q.dat.length : Int) - (off : Int) > mtu - 48) = false := by simpa using hs
                  have d5 : decide (mtu - 48 < ((q.dat.length - off : Nat) : Int)) = false := by simp; omega
                  obtain ⟨N, hN⟩ : ∃ N, N = q.dat.length - off := ⟨_, rfl⟩
                  have e11 : q.dat.length - off = N := hN.symm
                  rw [← hN] at HRS
                  have e9 : (q.dat.length : Int) - (off : Int) = (N : Int) := by omega
                  have e10 : wrap64 ((q.dat.length : Int) - (off : Int)) = (N : Int) := by unfold wrap64; omega
                  have d3 : decide (mtu - 48 < (N : Int)) = false := by rw [← e9]; exact d1
                  have d4 : decide ((N : Int) > mtu - 48) = false := by rw [← e9]; exact d2
                  have hoN : off + N ≤ q.dat.length := by omega
                  have hN8 : 0 < N := by omega
                  have hNe : off + N = q.dat.length := by omega
                  clear hs hN
                  obtain ⟨F1, hF1⟩ : ∃ F1, F1 = fh6 q id off false := ⟨_, rfl⟩
                  have HF := Lib.hid hF1.symm
                  have HOK : Hid (okF F1) := Lib.hid (by rw [hF1]; exact okF_at HCU.out false hoff ho8)
                  obtain ⟨DZ, hDZ⟩ : ∃ DZ, DZ = (q.dat.drop off).take N := ⟨_, rfl⟩
                  have HDZ : Hid (DZ.length = N) := Lib.hid (by rw [hDZ, List.length_take, List.length_drop]; omega)
                  obtain ⟨H8, hH8⟩ : ∃ H8, H8 = bldF F1 := ⟨_, rfl⟩
                  have H8l : Hid (H8.length = 8) := Lib.hid (by rw [hH8]; exact bldF_eight HOK.out)
                  have HH := Lib.hid hH8.symm
                  obtain ⟨R, hR⟩ : ∃ R, R = H8 ++ DZ := ⟨_, rfl⟩
                  have HX : Hid (one6 q id off N false = { q with next := 44, dat := R }) := Lib.hid (by rw [hR, hDZ, hH8, hF1]; rfl)
                  have HR := Lib.hid hR
                  have HRl : Hid (R.length = 8 + N) := Lib.hid (by rw [hR, List.length_append, H8l.out, HDZ.out])
                  have HDD := Lib.hid hDZ
                  have hfr : (Value.agg #[.int .i64 q.next, .int .i64 (off : Int), .int .i64 id, .bool false]) = frv F1 := by rw [hF1]; rfl
                  have HW1 : Hid (IntKind.i64.wrap ((off : Int) + (N : Int)) = ((off + N : Nat) : Int)) := Lib.hid (by rw [IntWalk.i64_in _ (by omega)]; omega)
                  clear hDZ hF1 hH8 hR
                  go_upto_region 17 with (first
                    | ((with_reducible show wpList _ _ _ (Oper.mk _ (Op.load 45 _) _ _ _ _ :: _) _ _); refine wpList_val rfl (run_load_v6 rfl rfl (at6_of hrowp) (v6l_len h6.1 h6.2)) ?_)
                    | ((with_reducible show wpList _ _ _ (Oper.mk _ (Op.store 45 _ _) _ _ _ _ :: _) _ _); refine v6_store_new (cs := v6a q P2 p2) rfl rfl rfl (v6a_size h6) (v6a_one _ _ _) ?_))
                  have row16 := World.alloc_heap_new wr (.cells (v6a q P2 p2) 45)
                  have hZ16 : Below wr.heap.size wr (wr.alloc (.cells (v6a q P2 p2) 45)) := (Below.refl _ wr).alloc (Nat.le_refl _) _
                  obtain ⟨b, hb⟩ : ∃ b, b = wr.heap.size := ⟨_, rfl⟩
                  rw [← hb] at row16 ⊢
                  have hbw : wr.heap.size ≤ b := by rw [hb]; exact Nat.le_refl _
                  have hgb : g < b := by rw [hb]; exact hgw
                  generalize wr.alloc (.cells (v6a q P2 p2) 45) = Z16 at *
                  clear hb
                  have hbz16 := heap_lt row16
                  have k2b := (at6_of row16).next
                  have f2b := heap_frozen row16 2
                  go_upto_region 18 with fail
                  have row17 := heap_setCell_same Z16 b 2 _ _ (.int .i64 44) row16
                  rw [set_next] at row17
                  have hZ17 := hZ16.setCell (p := ⟨b, 2, none⟩) hbw (.int .i64 44)
                  have hbz17 := heap_lt row17
                  clear k2b f2b row16 hZ16
                  generalize Z16.setCell ⟨b, 2, none⟩ (.int .i64 44) = V17 at *
                  have hrow17 := (hZ17.block g hgw).trans hrowp
                  have hg17 := heap_lt hrow17
                  have kn17 := (at6_of hrow17).next
                  go_upto_region 19 with (go_at_call 49; (refine (r6bfrag F1 V17).mono ?_; rintro e w18 ⟨v18, rfl, m18⟩; rw [HH.out] at m18; obtain ⟨P18, p18, rfl, g18, o18, y18⟩ := made_shape m18))
                  have hrow18 := (y18.block g hg17).trans hrow17
                  have k18 := (at6_of hrow18).dat h6.1 h6.2
                  have hP18 := own_below (own_below ownP hZ17) y18
                  have hAr18 := arg_own hP18
                  have hcap := hAr18.cap
                  have hne : ¬ p2 = off := by omega
                  have hAD : Arg w18 w18.heap.size (P2.map (fun x => x.add off)) (p2 - off) DZ := by
                    have h1 := hAr18.cut off (off + N) hoN
                    rw [cutA, if_neg hne] at h1
                    rwa [show (q.dat.take (off + N)).drop off = DZ by rw [HDD.out, List.drop_take, Nat.add_sub_cancel_left]] at h1
                  have hz18 := y18.size
                  go_upto_region 20 with (at_builtin; refine append_rd rfl _ _ rfl V17.heap.size (.slice P18 H8.length p18) H8.length (row H8) rfl o18 w18.heap.size (P2.map (fun x => x.add off)) (p2 - off) DZ (by rw [HDZ.out]; go_simp) hAD.none_ hAD.rd (by rw [H8l.out, HDZ.out]; omega) hz18 ?_; intro v19 w19 own19 grow19; have y19 := y18.grown grow19 hz18 (fun k hk => own_block_ge o18 k hk); obtain ⟨P19, p19, rfl, o19⟩ := own_made (bs := R) own19 (by rw [HR.out, List.length_append]) (by rw [HR.out, row_append]); have row19 := (y19.block b hbz17).trans row17; have c36 := (at6_of row19).dat h6.1 h6.2; have f36 := heap_frozen row19 36)
                  have row20 := heap_setCell_same w19 b 36 _ _ (.slice P19 R.length p19) row19
                  rw [set_dat { q with next := 44 } P2 P19 p2 p19 R h6.1 h6.2] at row20
                  have hx6 : ok6 ({ q with next := 44, dat := R } : P6) := h6
                  have row20 : (w19.setCell ⟨b, 36, none⟩ (.slice P19 R.length p19)).heap[b]? = some (.cells (v6a { q with next := 44, dat := R } P19 p19) 45 (0, 0)) := row20
                  have hx20 : Own6 (w19.setCell ⟨b, 36, none⟩ (.slice P19 R.length p19)) (g + 1) ⟨{ q with next := 44, dat := R }, P19, p19, hx6⟩ := ⟨hx6, own_setCellB (own_base o19 (by omega)) row19 hTu⟩
                  have hZ20 := (hZ17.trans (y19.mono hZ17.size)).setCell (p := ⟨b, 36, none⟩) hbw (.slice P19 R.length p19)
                  clear row19 row17 o19 own19 grow19 y19 hZ17 c36 f36 hAD hAr18 hP18 k18 hrow18 y18 o18 g18 m18 kn17 hrow17 hcap
                  generalize w19.setCell ⟨b, 36, none⟩ (.slice P19 R.length p19) = V20 at *
                  have hat20 := at6_of row20
                  have hor20 := own_below hor hZ20
                  have hax20 : ∀ x ∈ pre, Own6 V20 (g + 1) x := fun x hx => (hax x hx).below hZ20
                  have hP20 := own_below ownP hZ20
                  have hrp20 := (hZ20.block g hgw).trans hrowp
                  have hgz := hZ20.size
                  obtain ⟨i0, hi, hz0, hz1, hz2'⟩ := info_parts info_v6
                  go_upto_region 21 with (first
                    | ((with_reducible show wpList _ _ _ (Oper.mk _ (Op.load 45 _) _ _ _ _ :: _) _ _); refine wpList_val rfl (run_load_v6 rfl rfl hat20 (v6l_len hx6.1 hx6.2)) ?_)
                    | ((with_reducible show wpList _ _ _ (Oper.mk _ (Op.buildSlice _ _ _) _ _ _ _ :: _) _ _); refine wpList_growU rfl (run_bs6 (cs := v6a { q with next := 44, dat := R } P19 p19) rfl rfl (v6a_size hx6)) ?_)
                    | (at_builtin; refine wpList_append_own _ rfl _ _ 46 rfl (g + 1) 45 i0 (v6v p6z none 0) 37 88 Try.underlying46 hi hz0 hz1 hz2' rfl (by decide) _ pre.length (pre.flatMap cl6) rfl (hor20.alloc _) ⟨V20.heap.size, 0, none⟩ 1 1 (cl6 ⟨{ q with next := 44, dat := R }, P19, p19, hx6⟩) rfl (cl6_len hx6) (cells_new6 V20 ⟨{ q with next := 44, dat := R }, P19, p19, hx6⟩) (cl6_one _) (by unfold maxLen; omega) (by omega) (by simp; omega) ?_; intro v24 w24 hown24 hgrow24 hnil24))
                  have y20 : Below V20.heap.size V20 (V20.alloc (.cells (v6a { q with next := 44, dat := R } P19 p19) 45)) := (Below.refl _ _).alloc (Nat.le_refl _) _
                  have hP24 := own_keepT (own_below hP20 y20) (hor20.alloc _) hgrow24 hTu
                  have hax24 : ∀ x ∈ pre ++ [⟨{ q with next := 44, dat := R }, P19, p19, hx6⟩], Own6 w24 (g + 1) x := fun x hx => by
                    rcases List.mem_append.1 hx with hx | hx
                    · exact ⟨(hax20 x hx).1, own_keepT (own_below (hax20 x hx).2 y20) (hor20.alloc _) hgrow24 hTu⟩
                    · rw [List.mem_singleton.1 hx]; exact ⟨hx6, own_keepT (own_below hx20.2 y20) (hor20.alloc _) hgrow24 hTu⟩
                  have hrp24 : w24.heap[g]? = some (.cells (v6a q P2 p2) 45 (0, 0)) := (hgrow24.block g (by simp; omega) (fun e => by have := own_block_ge hor g e.symm; omega)).trans ((y20.block g (by omega)).trans hrp20)
                  have hB24 : Below w.heap.size w w24 := ((hbel.trans (hZ20.mono hbel.size)).trans (y20.mono (by have := hbel.size; omega))).grown hgrow24 (by have := hbel.size; simp; omega) (fun k hk => by have := own_block_ge hor k hk; omega)
                  have hrow24 : w24.ownsRow (g + 1) 45 37 v24 (pre.length + 1) ((pre ++ [(⟨{ q with next := 44, dat := R }, P19, p19, hx6⟩ : X6)]).flatMap cl6) := by
                    rw [List.flatMap_append, List.flatMap_cons, List.flatMap_nil, List.append_nil]; exact hown24
                  clear hown24 hgrow24 hnil24 y20 hor20 hax20 hP20 hrp20 hx20 row20 hat20
                  obtain ⟨A24, c24, rfl⟩ := own_slice hrow24
                  have HO2 := HW1
                  go_wp2
                  refine ⟨?rel, ?measure⟩
                  case rel =>
                    refine ⟨_, off + N, pre ++ [⟨{ q with next := 44, dat := R }, P19, p19, hx6⟩], rfl, ?_, hB24, hrp24, (by rw [List.length_append]; exact hrow24), hax24, hP24, hoN, ?_⟩
                    · first | rfl | (congr 1; omega) | simp
                    · exact .inr ⟨Lib.hid (by rw [HLL.out, HRS.out, HX.out, List.map_append]; rfl), by omega⟩
                  case measure => simp [offV]; omega
              · have dN : decide ((q.dat.length : Int) < (q.dat.length : Int)) = false := by simp
                have dN' : decide (q.dat.length < q.dat.length) = false := by simp
                obtain ⟨A9, c9, rfl⟩ := own_slice hor
                go_wp2_with fail
                exact bodyPost_ret (results_tmp2 rfl _ _ _) rfl ⟨_, pre, by rw [HE0.out]; rfl, ⟨own_base hor (by omega), fun x hx => (hax x hx).base_ (by omega)⟩, by rw [HLC.out]; exact HLF.out.symm, hbel⟩
        · have HE := Lib.hid (show cutE6 q id mtu = chk6 q by rw [cutE6, if_neg HM.out])
          have HN := Lib.hid hk
          have dk : (chk6 q != 0) = true := by simpa using hk
          clear hk
          go_wp2_with (first
            | ((with_reducible show wpList _ _ _ (Oper.mk _ (Op.load 45 _) _ _ _ _ :: _) _ _); refine wpList_val rfl (run_load_v6 rfl rfl hAt (v6l_len h6.1 h6.2)) ?_)
            | (go_at_call 46; refine (rfits_any _ _ _).mono ?_; rintro e w' ⟨rfl, rfl⟩; rw [HFT.out])
            | (go_at_call 47; refine (r6check q A c _ h6.1 h6.2 hdl).mono ?_; rintro e w1 ⟨rfl, x1⟩))
          exact bodyPost_ret (results_tmp2 rfl _ _ _) rfl ⟨.slice none 0 0, [], by rw [HE.out]; rfl, Row6.nil _ _, by rw [cutL6, if_neg (by rw [HE.out]; exact HN.out)]; rfl, hB.trans (x1.mono hB.size)⟩
      · have HFT : Hid (fitsB id 4 = false) := Lib.hid (by rw [fitsB_id]; exact decide_eq_false h3)
        have HE := Lib.hid (show cutE6 q id mtu = 1 by rw [cutE6, if_pos (by omega)])
        clear h1 h2 h3
        go_wp2_with (go_at_call 46; refine (rfits_any _ _ _).mono ?_; rintro e w' ⟨rfl, rfl⟩; rw [HFT.out])
        exact bodyPost_ret (results_tmp2 rfl _ _ _) rfl ⟨.slice none 0 0, [], by rw [HE.out]; rfl, Row6.nil _ _, by rw [cutL6, if_neg (by rw [HE.out]; decide)]; rfl, hB⟩
end Go.Proofs.Ytcebobcakiljhaa

/-
  Contract of the document's Same of layer 6. Conditions are each theorem's own.
-/
namespace Go.Proofs.Ytcebobcakiljhaa
open Go.RowKit

set_option maxRecDepth 100000 in
set_option maxHeartbeats 4000000 in
theorem r6same (q r : P6) (A : Option Addr) (c : Nat) (X : Option Addr) (d B : Nat) (w : World) (hs : q.src.length = 16) (hd : q.dst.length = 16) (hs2 : r.src.length = 16) (hd2 : r.dst.length = 16) (hB : B ≤ w.heap.size) (hQ : Rd w B A q.dat) (hR : Rd w B X r.dat) :
    Calls Try.prog 24 #[v6v q A c, v6v r X d] w fun e w' => e = .returned (.bool (same6 q r)) ∧ Below w.heap.size w w' := by
  have hBl : ∀ o1 o2, Below w.heap.size w ((w.alloc o1).alloc o2) := fun o1 o2 => ((Below.refl w.heap.size w).alloc (Nat.le_refl _) o1).alloc (by simp) o2
  have at1 : At6 ((w.alloc (.cells (v6a q A c) 45)).alloc (.cells (v6a r X d) 45)) w.heap.size q A c := (At6.new w).below ((Below.refl (w.heap.size + 1) _).alloc (by simp) _) (by omega)
  have at2 : At6 ((w.alloc (.cells (v6a q A c) 45)).alloc (.cells (v6a r X d) 45)) (w.heap.size + 1) r X d := by
    have := At6.new (q := r) (A := X) (c := d) (w.alloc (.cells (v6a q A c) 45))
    rwa [show (w.alloc (.cells (v6a q A c) 45)).heap.size = w.heap.size + 1 from by simp] at this
  have hBW := hBl (.cells (v6a q A c) 45) (.cells (v6a r X d) 45)
  have hz : w.heap.size + 1 < ((w.alloc (.cells (v6a q A c) 45)).alloc (.cells (v6a r X d) 45)).heap.size := by simp
  clear hBl
  have HS : Hid (same6 q r = ((q.traffic == r.traffic) && (q.flow == r.flow) && (q.next == r.next) && (q.hop == r.hop) && decide (q.src = r.src) && decide (q.dst = r.dst) && decide (q.dat = r.dat))) := Lib.hid rfl
  unfold v6v
  rw [show (v6l q A c).toArray = v6a q A c from rfl, show (v6l r X d).toArray = v6a r X d from rfl]
  go_enter Try.func24, Try.ntmps24
  go_upto_region 1 with fail
  generalize (w.alloc (.cells (v6a q A c) 45)).alloc (.cells (v6a r X d) 45) = W at *
  have c2 := conv_any A q.dat c B W (hQ.below (hBW.mono hB))
  have c4 := conv_any X r.dat d B W (hR.below (hBW.mono hB))
  have x0 := at1.traffic; have x1 := at1.flow; have x2 := at1.next; have x3 := at1.hop; have x6 := at1.dat hs hd
  have y0 := at2.traffic; have y1 := at2.flow; have y2 := at2.next; have y3 := at2.hop; have y6 := at2.dat hs2 hd2
  obtain ⟨S, hS0⟩ : ∃ S, S = decide (q.src = r.src) := ⟨_, rfl⟩
  obtain ⟨D, hD0⟩ : ∃ D, D = decide (q.dst = r.dst) := ⟨_, rfl⟩
  have eS : ∀ w, (Op.equalIn 10000 43 (.agg (cel q.src)) (.agg (cel r.src))).run Try.prog w = .ok S w := fun w => by rw [hS0]; exact six_eq _ _ hs hs2 w
  have eD : ∀ w, (Op.equalIn 10000 43 (.agg (cel q.dst)) (.agg (cel r.dst))).run Try.prog w = .ok D w := fun w => by rw [hD0]; exact six_eq _ _ hd hd2 w
  rw [← hS0, ← hD0] at HS
  clear hS0 hD0 hQ hR
  have q2 := strB_eq q.dat r.dat
  cases e0 : (q.traffic == r.traffic)
  · skip
    go_wp2_with (first
      | ((with_reducible show wpList _ _ _ (Oper.mk (some 33) (Op.load _ _) _ _ _ _ :: _) _ _); refine wpList_valg (by rfl) (run_load_six rfl rfl at1.src hs) ?_)
      | ((with_reducible show wpList _ _ _ (Oper.mk (some 35) (Op.load _ _) _ _ _ _ :: _) _ _); refine wpList_valg (by rfl) (run_load_six rfl rfl at2.src hs2) ?_)
      | ((with_reducible show wpList _ _ _ (Oper.mk (some 40) (Op.load _ _) _ _ _ _ :: _) _ _); refine wpList_valg (by rfl) (run_load_six rfl rfl (at1.dst hs) hd) ?_)
      | ((with_reducible show wpList _ _ _ (Oper.mk (some 42) (Op.load _ _) _ _ _ _ :: _) _ _); refine wpList_valg (by rfl) (run_load_six rfl rfl (at2.dst hs2) hd2) ?_))
    go_ret
    exact ⟨ret_bool (by rw [HS.out, e0]; rfl), hBW⟩
  · skip
    cases e1 : (q.flow == r.flow)
    · skip
      go_wp2_with (first
        | ((with_reducible show wpList _ _ _ (Oper.mk (some 33) (Op.load _ _) _ _ _ _ :: _) _ _); refine wpList_valg (by rfl) (run_load_six rfl rfl at1.src hs) ?_)
        | ((with_reducible show wpList _ _ _ (Oper.mk (some 35) (Op.load _ _) _ _ _ _ :: _) _ _); refine wpList_valg (by rfl) (run_load_six rfl rfl at2.src hs2) ?_)
        | ((with_reducible show wpList _ _ _ (Oper.mk (some 40) (Op.load _ _) _ _ _ _ :: _) _ _); refine wpList_valg (by rfl) (run_load_six rfl rfl (at1.dst hs) hd) ?_)
        | ((with_reducible show wpList _ _ _ (Oper.mk (some 42) (Op.load _ _) _ _ _ _ :: _) _ _); refine wpList_valg (by rfl) (run_load_six rfl rfl (at2.dst hs2) hd2) ?_))
      go_ret
      exact ⟨ret_bool (by rw [HS.out, e0, e1]; rfl), hBW⟩
    · skip
      cases e2 : (q.next == r.next)
      · skip
        go_wp2_with (first
          | ((with_reducible show wpList _ _ _ (Oper.mk (some 33) (Op.load _ _) _ _ _ _ :: _) _ _); refine wpList_valg (by rfl) (run_load_six rfl rfl at1.src hs) ?_)
          | ((with_reducible show wpList _ _ _ (Oper.mk (some 35) (Op.load _ _) _ _ _ _ :: _) _ _); refine wpList_valg (by rfl) (run_load_six rfl rfl at2.src hs2) ?_)
          | ((with_reducible show wpList _ _ _ (Oper.mk (some 40) (Op.load _ _) _ _ _ _ :: _) _ _); refine wpList_valg (by rfl) (run_load_six rfl rfl (at1.dst hs) hd) ?_)
          | ((with_reducible show wpList _ _ _ (Oper.mk (some 42) (Op.load _ _) _ _ _ _ :: _) _ _); refine wpList_valg (by rfl) (run_load_six rfl rfl (at2.dst hs2) hd2) ?_))
        go_ret
        exact ⟨ret_bool (by rw [HS.out, e0, e1, e2]; rfl), hBW⟩
      · skip
        cases e3 : (q.hop == r.hop)
        · skip
          go_wp2_with (first
            | ((with_reducible show wpList _ _ _ (Oper.mk (some 33) (Op.load _ _) _ _ _ _ :: _) _ _); refine wpList_valg (by rfl) (run_load_six rfl rfl at1.src hs) ?_)
            | ((with_reducible show wpList _ _ _ (Oper.mk (some 35) (Op.load _ _) _ _ _ _ :: _) _ _); refine wpList_valg (by rfl) (run_load_six rfl rfl at2.src hs2) ?_)
            | ((with_reducible show wpList _ _ _ (Oper.mk (some 40) (Op.load _ _) _ _ _ _ :: _) _ _); refine wpList_valg (by rfl) (run_load_six rfl rfl (at1.dst hs) hd) ?_)
            | ((with_reducible show wpList _ _ _ (Oper.mk (some 42) (Op.load _ _) _ _ _ _ :: _) _ _); refine wpList_valg (by rfl) (run_load_six rfl rfl (at2.dst hs2) hd2) ?_))
          go_ret
          exact ⟨ret_bool (by rw [HS.out, e0, e1, e2, e3]; rfl), hBW⟩
        · skip
          cases S
          · skip
            go_wp2_with (first
              | ((with_reducible show wpList _ _ _ (Oper.mk (some 33) (Op.load _ _) _ _ _ _ :: _) _ _); refine wpList_valg (by rfl) (run_load_six rfl rfl at1.src hs) ?_)
              | ((with_reducible show wpList _ _ _ (Oper.mk (some 35) (Op.load _ _) _ _ _ _ :: _) _ _); refine wpList_valg (by rfl) (run_load_six rfl rfl at2.src hs2) ?_)
              | ((with_reducible show wpList _ _ _ (Oper.mk (some 40) (Op.load _ _) _ _ _ _ :: _) _ _); refine wpList_valg (by rfl) (run_load_six rfl rfl (at1.dst hs) hd) ?_)
              | ((with_reducible show wpList _ _ _ (Oper.mk (some 42) (Op.load _ _) _ _ _ _ :: _) _ _); refine wpList_valg (by rfl) (run_load_six rfl rfl (at2.dst hs2) hd2) ?_))
            go_ret
            exact ⟨ret_bool (by rw [HS.out, e0, e1, e2, e3]; rfl), hBW⟩
          · skip
            cases D
            · skip
              go_wp2_with (first
                | ((with_reducible show wpList _ _ _ (Oper.mk (some 33) (Op.load _ _) _ _ _ _ :: _) _ _); refine wpList_valg (by rfl) (run_load_six rfl rfl at1.src hs) ?_)
                | ((with_reducible show wpList _ _ _ (Oper.mk (some 35) (Op.load _ _) _ _ _ _ :: _) _ _); refine wpList_valg (by rfl) (run_load_six rfl rfl at2.src hs2) ?_)
                | ((with_reducible show wpList _ _ _ (Oper.mk (some 40) (Op.load _ _) _ _ _ _ :: _) _ _); refine wpList_valg (by rfl) (run_load_six rfl rfl (at1.dst hs) hd) ?_)
                | ((with_reducible show wpList _ _ _ (Oper.mk (some 42) (Op.load _ _) _ _ _ _ :: _) _ _); refine wpList_valg (by rfl) (run_load_six rfl rfl (at2.dst hs2) hd2) ?_))
              go_ret
              exact ⟨ret_bool (by rw [HS.out, e0, e1, e2, e3]; rfl), hBW⟩
            · skip
              cases e6 : decide (q.dat = r.dat)
              · skip
                rw [e6] at q2
                go_wp2_with (first
                  | ((with_reducible show wpList _ _ _ (Oper.mk (some 33) (Op.load _ _) _ _ _ _ :: _) _ _); refine wpList_valg (by rfl) (run_load_six rfl rfl at1.src hs) ?_)
                  | ((with_reducible show wpList _ _ _ (Oper.mk (some 35) (Op.load _ _) _ _ _ _ :: _) _ _); refine wpList_valg (by rfl) (run_load_six rfl rfl at2.src hs2) ?_)
                  | ((with_reducible show wpList _ _ _ (Oper.mk (some 40) (Op.load _ _) _ _ _ _ :: _) _ _); refine wpList_valg (by rfl) (run_load_six rfl rfl (at1.dst hs) hd) ?_)
                  | ((with_reducible show wpList _ _ _ (Oper.mk (some 42) (Op.load _ _) _ _ _ _ :: _) _ _); refine wpList_valg (by rfl) (run_load_six rfl rfl (at2.dst hs2) hd2) ?_))
                go_ret
                exact ⟨ret_bool (by rw [HS.out, e0, e1, e2, e3, e6]; rfl), hBW⟩
              · skip
                rw [e6] at q2
                go_wp2_with (first
                  | ((with_reducible show wpList _ _ _ (Oper.mk (some 33) (Op.load _ _) _ _ _ _ :: _) _ _); refine wpList_valg (by rfl) (run_load_six rfl rfl at1.src hs) ?_)
                  | ((with_reducible show wpList _ _ _ (Oper.mk (some 35) (Op.load _ _) _ _ _ _ :: _) _ _); refine wpList_valg (by rfl) (run_load_six rfl rfl at2.src hs2) ?_)
                  | ((with_reducible show wpList _ _ _ (Oper.mk (some 40) (Op.load _ _) _ _ _ _ :: _) _ _); refine wpList_valg (by rfl) (run_load_six rfl rfl (at1.dst hs) hd) ?_)
                  | ((with_reducible show wpList _ _ _ (Oper.mk (some 42) (Op.load _ _) _ _ _ _ :: _) _ _); refine wpList_valg (by rfl) (run_load_six rfl rfl (at2.dst hs2) hd2) ?_))
                go_ret
                exact ⟨ret_bool (by rw [HS.out, e0, e1, e2, e3, e6]; rfl), hBW⟩
end Go.Proofs.Ytcebobcakiljhaa
