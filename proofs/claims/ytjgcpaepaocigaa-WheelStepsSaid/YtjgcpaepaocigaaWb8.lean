/-
  Contracts and lemmas on which the proofs of this seat stand (several texts in one). Conditions are each theorem's own.
-/
import Derived.Test.YtjgcpaepaocigaaWb5
import Derived.Test.YtjgcpaepaocigaaWb4
import Derived.Test.YtjgcpaepaocigaaWb7
import Derived.Test.YtjgcpaepaocigaaWb1

/-
  Advance of layer 17, where all that is reached is due, and at most two are. Conditions are each theorem's own.
-/
namespace Go.Proofs.Ytjgcpaepaocigaa
open Go.RowKit Go.Shelf Go.Maps Go.WideMaps
attribute [local go_sem] Oper.semAt_some
theorem wp_delW {o : Oper} {a : Act} {w w' : World} {K : Act → World → Prop} {Q : Exit → Act → World → Prop} {m x : Operand} {t k : TypeId} {b : Nat} {key : Value} (hop : o.op = Op.call { callee := Callee.builtin Builtin.delete, args := #[m, x], argTypes := #[t, k] })
    (hm : a.eval m = .map (some b)) (hx : a.eval x = key) (hrun : (Builtin.delete_ #[t, k] o.type #[.map (some b), key]).run Try.prog w = .ok (.tuple #[]) w') (h : K (a.put o.dst (.tuple #[])) w') : o.wp Try.prog a w K Q := by
  unfold Oper.wp
  simp [execOp, hop, resolve, invoke, builtin, hm, hx, hrun, Result.andThen]
  exact h
theorem info_intW : (Try.prog.info? 3).map (fun i => (i.zero, i.size, i.bytes)) = some (some (.int .i64 0), 1, 8) := by kernel_rfl
theorem append_intW {w : World} {ops : Array Oper} {rest : List Oper} {o : Oper} {a : Act} {Q : Exit → Act → World → Prop} (hgd : o.guard = none) (s x : Operand)
    (ho : o.op = .call { callee := .builtin .append, args := #[s, x], argTypes := #[30, 30] })
    (base : Nat) (v : Value) (n : Nat) (xs : List Value) (hs : a.eval s = v) (hown : w.ownsRow base 3 1 v n xs)
    (g : Nat) (y : Int) (hx : a.eval x = .slice (some ⟨g, 0, none⟩) 1 1) (hy : w.cell? ⟨g, 0, none⟩ = some (.int .i64 y))
    (hlen : n ≤ 1000001) (hbase : base ≤ w.heap.size)
    (h : ∀ v' w', w'.ownsRow base 3 1 v' (n + 1) (xs ++ [.int .i64 y]) → w.grownBy w' v.ownBlock → wpList Try.prog ops Q rest (a.put o.dst v') w') : wpList Try.prog ops Q (o :: rest) a w := by
  obtain ⟨i0, hi, hz0, hz1, hz2⟩ := info_parts info_intW
  refine wpList_append_own w hgd s x 30 ho base 3 i0 (.int .i64 0) 1 8 Try.underlying30 hi hz0 hz1 hz2 rfl (by decide) v n xs hs hown ⟨g, 0, none⟩ 1 1 [.int .i64 y] hx
      rfl (fun j u hu => ?_) (by intro u hu; simp only [List.mem_singleton] at hu; subst hu; rfl) (by unfold maxLen; omega) (by omega) hbase (fun v' w' h1 h2 _ => h v' w' h1 h2)
  have hj : j = 0 := by have := (List.getElem?_eq_some_iff.1 hu).1; simp at this; exact this
  subst hj
  simp only [List.getElem?_cons_zero, Option.some.injEq] at hu
  rw [← hu, add_off]; exact hy
/-- What lies about while those that are due are gone through: j of K are told. -/
structure Da (w0 : World) (B0 d M : Nat) (most : Int) (now : Nat) (K R : List Te) (N j : Nat) (A : Option Addr) (b1 : Nat) (v : Value) (w : World) : Prop where
  T : ∃ T, Wb w d M most (now : Int) T ∧ (∀ e ∈ R, T e.q = some e.b) ∧ (∀ q, (∀ e ∈ R, e.q ≠ q) → T q = none)
  k : ∀ e ∈ K, w.heap[e.b]? = some (.cells (tmC e.id (e.a : Int) none) 68 (0, 0))
  r : ∀ e ∈ R, w.heap[e.b]? = some (.cells (tmC e.id (e.a : Int) (some ⟨d, 2 * e.q, none⟩)) 68 (0, 0)) ∧ e.q < 448 ∧ B0 ≤ e.b
  im : Iw w M N ((K.drop j ++ R).map (·.id))
  rd : RdS clP_ 1 w b1 A K
  own : w.ownsRow b1 57 1 v j ((K.take j).flatMap clP_)
  bel : Below B0 w0 w
  size : b1 ≤ w.heap.size
  lt : d < b1 ∧ M < b1 ∧ (∀ e ∈ K ++ R, e.b < b1)
  z : B0 ≤ d ∧ B0 ≤ M ∧ B0 ≤ b1
section
variable {w0 w w2 w4 : World} {B0 d M N j b1 : Nat} {most : Int} {now : Nat} {K R : List Te} {A : Option Addr} {v v4 : Value} {e : Te}
theorem Da.ne (h : Da w0 B0 d M most now K R N j A b1 v w) : d ≠ M ∧ ∀ e ∈ K ++ R, e.b ≠ M := by
  obtain ⟨T, h1, _⟩ := h.T
  obtain ⟨cs, h2⟩ := h1.is
  obtain ⟨es, clock, h3⟩ := h.im.is
  refine ⟨fun e => (by rw [e, h3] at h2; cases h2), fun e he e2 => ?_⟩
  rcases List.mem_append.1 he with he | he
  · have := h.k e he; rw [e2, h3] at this; cases this
  · have := (h.r e he).1; rw [e2, h3] at this; cases this
theorem Da.ws {E : List Te} (h : Da w0 B0 d M most now K R N j A b1 v w) (hj : j = K.length) (hp : E.Pairwise (fun x y => x.q ≠ y.q ∧ x.b ≠ y.b)) (hE : E = K ++ R) : Ws w B0 d M most now R N := by
  subst hE
  have hi := h.im
  rw [hj, List.drop_length, List.nil_append] at hi
  exact ⟨h.T, hi, h.r, (List.pairwise_append.1 hp).2.1, ⟨h.z.1, h.z.2.1⟩⟩
/-- One more is told. -/
theorem Da.step (h : Da w0 B0 d M most now K R N j A b1 v w) (hj : K[j]? = some e) (hI : Iw w2 M N (((K.drop j ++ R).map (·.id)).erase e.id)) (hg : w.drew.grownBy w2 (some M)) (hb : Below b1 w2 w4)
    (ho : w4.ownsRow b1 57 1 v4 (j + 1) ((K.take j).flatMap clP_ ++ [.pointer (some ⟨e.b, 0, none⟩)])) : Da w0 B0 d M most now K R N (j + 1) A b1 v4 w4 := by
  obtain ⟨hjl, hje⟩ := List.getElem?_eq_some_iff.1 hj
  obtain ⟨l1, l2, l3⟩ := h.lt
  have hne := h.ne
  have k2 : Kept (fun k => k = M) w.drew w2 := (Kept.of_grown hg).mono (T := fun k => k = M) (fun _ _ e => by injection e)
  have hsz : b1 ≤ w.drew.heap.size := h.size
  have keep : ∀ k, k < b1 → k ≠ M → w4.heap[k]? = w.heap[k]? := fun k hk hn => (hb.block k hk).trans (k2.block k (by omega) hn)
  have hdrop : K.drop j = e :: K.drop (j + 1) := by rw [List.drop_eq_getElem_cons hjl, hje]
  obtain ⟨T, t1, t2, t3⟩ := h.T
  refine ⟨⟨T, t1.of_block (keep d l1 hne.1), t2, t3⟩, fun x hx => (keep x.b (l3 x (by simp [hx])) (hne.2 x (by simp [hx]))).trans (h.k x hx), fun x hx => ⟨(keep x.b (l3 x (by simp [hx])) (hne.2 x (by simp [hx]))).trans (h.r x hx).1, (h.r x hx).2⟩, ?_, ?_, ?_, ?_, ?_, h.lt, h.z⟩
  · have := hI.of_block (hb.block M l2)
    rw [hdrop, List.cons_append, List.map_cons, List.erase_cons_head] at this
    exact this
  · intro hn
    obtain ⟨g, off, e1, hg1, hc⟩ := h.rd hn
    have hgM : g ≠ M := by
      intro e2
      have c0 := hc 0 K[0] (List.getElem?_eq_getElem hn) 0 _ rfl
      obtain ⟨o, ho2, hcs⟩ := cells_of_cell c0
      obtain ⟨es, clock, h3⟩ := h.im.is
      have ho3 : w.heap[g]? = some o := ho2
      rw [e2, h3] at ho3; cases ho3; simp [Obj.isCells] at hcs
    exact ⟨g, off, e1, hg1, fun i x hx k v hv => (World.cell?_of_block (w := w) (keep g hg1 hgM)).trans (hc i x hx k v hv)⟩
  · have e1 : K.take (j + 1) = K.take j ++ [e] := by rw [List.take_add_one, hj]; rfl
    rw [e1, List.flatMap_append]
    exact ho
  · exact (h.bel.drew).trans ((k2.below (by have := h.bel.size; have := h.z.2.2; omega) (fun i hi => by rw [hi]; exact h.z.2.1)).trans (hb.mono (by have := h.z.2.2; omega)))
  · have h1 := k2.size
    have h2 := hb.size
    omega
set_option maxRecDepth 100000 in
set_option maxHeartbeats 4000000 in
theorem wadv_due {E : List Te} {now0 : Nat} (h : Ws w B0 d M most now0 E N) (hs : E.Pairwise (fun x y => x.q < y.q)) (hEl : E.length ≤ 1000) (hEa : ∀ e ∈ E, e.a ≤ 2 ^ 40) (now : Nat) (hn0 : now0 ≤ now) (hn1 : now ≤ 2 ^ 40)
    (hdue : ∀ e ∈ E.takeWhile (tkN now), e.a ≤ now) (hsrt : (E.takeWhile (tkN now)).Pairwise (fun x y => x.a ≤ y.a)) (hle : (E.takeWhile (tkN now)).length ≤ 2) :
    Calls Try.prog 10 #[.pointer (some ⟨d, 0, none⟩), .int .i64 (now : Int)] w fun e w' => ∃ v, e = .returned v ∧ w'.ownsRow w.heap.size 3 1 v (E.takeWhile (tkN now)).length ((E.takeWhile (tkN now)).map fun e => Value.int .i64 e.id) ∧
      Ws w' B0 d M most now (E.dropWhile (tkN now)) N ∧ Below B0 w w' := by
  have HRE := Lib.hid (wreached h hs hEl hEa (now := now))
  obtain ⟨K, hK⟩ : ∃ K, K = E.takeWhile (tkN now) := ⟨_, rfl⟩
  obtain ⟨R, hR⟩ : ∃ R, R = E.dropWhile (tkN now) := ⟨_, rfl⟩
  rw [← hK] at hdue hsrt hle HRE ⊢
  rw [← hR] at HRE ⊢
  have hmi : max (now : Int) (now0 : Int) = (now : Int) := by omega
  have hmn : min (now : Int) 1099511627776 = (now : Int) := by omega
  obtain ⟨T, hwb, hx1, hx2⟩ := h.T
  have kn := hwb.cn
  have HM := Lib.hid (wmade hwb)
  have H := Lib.hid h
  have HDU := Lib.hid hdue
  have HSR := Lib.hid hsrt
  clear hK hR h hs hEl hEa hn0 hn1 hdue hsrt hwb hx1 hx2 T
  go_enter Try.func10, Try.ntmps10
  go_upto_region 4 with (first
    | (go_at_call 27; refine HM.out.mono ?_; rintro e w1 ⟨rfl, rfl⟩))
  clear kn
  go_upto_region 5 with (first
    | (go_at_call 31; refine HRE.out.mono ?_; rintro e w1 ⟨A1, c1, rfl, hsc⟩))
  obtain ⟨T, hT1, hT2, hT3⟩ := hsc.T
  have ff := hT1.fr 898
  have kn1 := hT1.cn
  have HSC := Lib.hid hsc
  have HT := Lib.hid (And.intro hT1 (And.intro hT2 hT3))
  clear hT1 hT2 hT3 hsc HRE HM
  go_upto_region 6 with fail
  have hEq := HSC.out.e
  have hne : ∀ e ∈ K ++ R, e.b ≠ d := fun e he => (H.out.neT (by rw [hEq]; exact he)).1
  obtain ⟨V, hV⟩ : ∃ V, V = w1.setCell ⟨d, 898, none⟩ (.int .i64 (now : Int)) := ⟨_, rfl⟩
  have kd : Kept (fun k => k = d) w1 V := by rw [hV]; exact Kept.setCell w1 d 898 _
  have hwt : Wb V d M most (now : Int) T := by rw [hV]; exact HT.out.1.time _
  have hzV := kd.size
  have hzw := HSC.out.size
  have hlt : ∀ e ∈ K ++ R, e.b < w.heap.size := fun e he => heap_lt (H.out.tm e (by rw [hEq]; exact he)).1
  have hdw : d < w.heap.size := by obtain ⟨T0, h9, _⟩ := H.out.T; exact h9.lt
  have hMw := H.out.im.lt
  have hbz := H.out.bz
  obtain ⟨A, c, ev, hrd, hcap⟩ := own_rds (cl := clP_) (sz := 1) (l := K) (own_keptT HSC.out.own kd (fun g hg cs fr hh => by
    subst hg
    obtain ⟨cs2, h2⟩ := HT.out.1.is
    rw [h2] at hh
    injection hh with hh
    injection hh with _ e2 _
    exact absurd e2 (nat_ne (by kernel_rfl)))) rfl rfl (fun _ _ => rfl)
  injection ev with ev1 ev2 ev3
  subst ev1
  subst ev3
  have hDa : Da w B0 d M most now K R N 0 A1 V.heap.size (.slice none 0 0) V := ⟨⟨T, hwt, HT.out.2.1, HT.out.2.2⟩, fun e he => (kd.block e.b (by have := hlt e (by simp [he]); omega) (hne e (by simp [he]))).trans (HSC.out.k e he),
    fun e he => ⟨(kd.block e.b (by have := hlt e (by simp [he]); omega) (hne e (by simp [he]))).trans (HSC.out.r e he), (H.out.tm e (by rw [hEq]; simp [he])).2⟩,
    by rw [List.drop_zero, ← hEq]; exact HSC.out.im.of_block (kd.block M (by omega) (fun e => H.out.ne e.symm)), hrd, World.ownsRow_nil _ _ _ _,
    HSC.out.bel.trans (kd.below (by omega) (fun i hi => by rw [hi]; exact H.out.z.1)), Nat.le_refl _, ⟨by omega, by omega, fun e he => by have := hlt e he; omega⟩, ⟨H.out.z.1, H.out.z.2, by omega⟩⟩
  have HDA := Lib.hid hDa
  clear hwt kd hrd hDa hlt hne hEq ff kn1
  rw [← hV]
  have hzB : w.heap.size ≤ V.heap.size := by omega
  clear hV hzV hzw
  obtain ⟨n, hn⟩ : ∃ n, n = K.length := ⟨_, rfl⟩
  rw [← hn] at hle hcap ⊢
  have HN := Lib.hid hn
  clear hn
  go_wp2
  go_loopw [33, 6] (fun z v wr => ∃ j vv, j ≤ n ∧ z = .int .i64 (j : Int) ∧ vv = v ∧ Hid (Da w B0 d M most now K R N j A1 V.heap.size vv wr)) (fun z _ _ => n - (intOf z).toNat)
  case atStart => exact ⟨0, _, Nat.zero_le _, rfl, rfl, HDA⟩
  case round =>
    clear HDA
    obtain ⟨j, v5, hj, rfl, rfl, HDA⟩ := hrel
    by_cases hjn : j < n
    · have d1 : decide ((j : Int) < (n : Int)) = true := decide_eq_true (by omega)
      obtain ⟨e, he⟩ : ∃ e, K[j]? = some e := ⟨_, List.getElem?_eq_getElem (by rw [← HN.out]; exact hjn)⟩
      obtain ⟨g, off, rfl, hgV, hrg⟩ := HDA.out.rd (by rw [← HN.out]; omega)
      have kp : wr.cell? ⟨g, off + j, none⟩ = some (.pointer (some ⟨e.b, 0, none⟩)) := by
        have := hrg j e he 0 _ rfl
        rw [Nat.mul_one, Nat.add_zero] at this
        exact this
      have heK := List.mem_of_getElem? he
      have hte := HDA.out.k e heK
      have ka : wr.cell? ⟨e.b, 1, none⟩ = some (.int .i64 (e.a : Int)) := cells_at hte rfl
      have d2 : decide ((now : Int) < (e.a : Int)) = false := decide_eq_false (by have := HDU.out e heK; omega)
      have d3 : decide (now < e.a) = false := decide_eq_false (by have := HDU.out e heK; omega)
      go_upto_region 12 with fail
      obtain ⟨T5, hT5, hx1, hx2⟩ := HDA.out.T
      have hI := HDA.out.im.of_block (w' := wr.drew) rfl
      obtain ⟨w2, hdr, hI2, hgr2⟩ := hI.drop (x := e.id) (List.mem_map_of_mem (f := Te.id) (List.mem_append_left _ (List.mem_of_getElem? (by rw [List.getElem?_drop, Nat.add_zero]; exact he)))) 0
      have HDR := Lib.hid hdr
      have hne := HDA.out.ne
      have k2 : Kept (fun k => k = M) wr.drew w2 := (Kept.of_grown hgr2).mono (T := fun k => k = M) (fun _ _ e => by injection e)
      have hsz := HDA.out.size
      obtain ⟨l1, l2, l3⟩ := HDA.out.lt
      have hs1 : wr.drew.cell? ⟨d, 896, none⟩ = some (.map (some M)) ∧ wr.drew.cell? ⟨e.b, 0, none⟩ = some (.int .i64 e.id) := ⟨hT5.cm, cells_at hte rfl⟩
      have hdz : d < wr.drew.heap.size := Nat.lt_of_lt_of_le l1 hsz
      have hez : e.b < wr.drew.heap.size := Nat.lt_of_lt_of_le (l3 e (by simp [heK])) hsz
      have HS2 : Hid (w2.cell? ⟨d, 896, none⟩ = some (.map (some M)) ∧ w2.cell? ⟨e.b, 0, none⟩ = some (.int .i64 e.id)) := Lib.hid
        ⟨(World.cell?_of_block (w := wr.drew) (a := ⟨d, 896, none⟩) (k2.block d hdz hne.1)).trans hs1.1, (World.cell?_of_block (w := wr.drew) (a := ⟨e.b, 0, none⟩) (k2.block e.b hez (hne.2 e (by simp [heK])))).trans hs1.2⟩
      have HI2 := Lib.hid (And.intro hI2 hgr2)
      have hov : w2.ownsRow V.heap.size 57 1 v5 j ((K.take j).flatMap clP_) := own_keptT ((HDA.out.own).drew) k2 (fun g' hg' cs fr hh => by
        subst hg'
        obtain ⟨es, clock, h3⟩ := hI.is
        rw [h3] at hh; cases hh)
      have hz2 : V.heap.size ≤ w2.heap.size := Nat.le_trans hsz k2.size
      have HOV := Lib.hid hov
      have HHE := Lib.hid he
      clear hx1 hx2 hov hT5 hdr hI hne k2 l1 l2 l3 hdz hez hI2 hgr2 kp hrg hgV he ka hte T5
      refine wp_region_held_drew (S := fun w' => w'.cell? ⟨d, 896, none⟩ = some (.map (some M)) ∧ w'.cell? ⟨e.b, 0, none⟩ = some (.int .i64 e.id)) (by kernel_rfl) hs1 (fun hS => ?_)
      clear hs1
      refine held_pure (i := 0) (oi := ⟨some 54, _, _, _, _, _⟩) rfl (by kernel_rfl) (by kernel_rfl) (by kernel_rfl) (fun _ _ _ h => h) (by rfl) (v := ?_) (fun w hSw => ?_) hS (fun hS => ?_)
      rotate_left
      · go_simp; try with_reducible rfl
      try go_frame
      refine held_pure (i := 1) (oi := ⟨some 55, _, _, _, _, _⟩) rfl (by kernel_rfl) (by kernel_rfl) (by kernel_rfl) (fun _ _ _ h => h) (by rfl) (v := ?_) (fun w hSw => ?_) hS (fun hS => ?_)
      rotate_left
      · go_simp; try with_reducible rfl
      try go_frame
      refine held_pure (i := 2) (oi := ⟨some 56, _, _, _, _, _⟩) rfl (by kernel_rfl) (by kernel_rfl) (by kernel_rfl) (fun _ _ _ h => h) (by rfl) (v := ?_) (fun w hSw => ?_) hS (fun hS => ?_)
      rotate_left
      · go_simp; try with_reducible rfl
      try go_frame
      refine held_pure (i := 3) (oi := ⟨some 57, _, _, _, _, _⟩) rfl (by kernel_rfl) (by kernel_rfl) (by kernel_rfl) (fun _ _ _ h => h) (by rfl) (fun w hSw => run_load_mpW rfl rfl hSw.1) hS (fun hS => ?_)
      try go_frame
      refine held_pure (i := 4) (oi := ⟨some 58, _, _, _, _, _⟩) rfl (by kernel_rfl) (by kernel_rfl) (by kernel_rfl) (fun _ _ _ h => h) (by rfl) (v := ?_) (fun w hSw => ?_) hS (fun hS => ?_)
      rotate_left
      · go_simp; try with_reducible rfl
      try go_frame
      refine held_pure (i := 5) (oi := ⟨some 59, _, _, _, _, _⟩) rfl (by kernel_rfl) (by kernel_rfl) (by kernel_rfl) (fun _ _ _ h => h) (by rfl) (v := ?_) (fun w hSw => ?_) hS (fun hS => ?_)
      rotate_left
      · go_simp; try with_reducible rfl
      try go_frame
      refine held_pure (i := 6) (oi := ⟨some 60, _, _, _, _, _⟩) rfl (by kernel_rfl) (by kernel_rfl) (by kernel_rfl) (fun _ _ _ h => h) (by rfl) (v := ?_) (fun w hSw => ?_) hS (fun hS => ?_)
      rotate_left
      · go_simp; try with_reducible rfl
      try go_frame
      refine held_pure (i := 7) (oi := ⟨some 61, _, _, _, _, _⟩) rfl (by kernel_rfl) (by kernel_rfl) (by kernel_rfl) (fun _ _ _ h => h) (by rfl) (fun w hSw => run_load_int rfl rfl hSw.2) hS (fun hS => ?_)
      try go_frame
      refine wpAnyH_ready (rs := [8]) (by kernel_rfl) (by simp) (AllReadyH.cons (o := ⟨none, _, _, _, _, _⟩) rfl (fun K hK => ?_) AllReadyH.nil)
      rw [if_pos (by rfl)]
      refine wp_delW (w' := w2) rfl rfl rfl HDR.out ?_
      refine hK.out _ _ HS2.out (fun hS => ?_)
      clear hK K
      try go_frame
      refine wpAnyH_done (by kernel_rfl) ?_ _
      have hov := HOV.out
      obtain ⟨W3, hW3⟩ : ∃ W3, W3 = w2.alloc (.cells #[.pointer (some ⟨e.b, 0, none⟩)] 57) := ⟨_, rfl⟩
      have HW3 := Lib.hid hW3
      have b3 : Below w2.heap.size w2 W3 := by rw [hW3]; exact (Below.refl _ w2).alloc (Nat.le_refl _) _
      have hcy : W3.cell? ⟨w2.heap.size, 0, none⟩ = some (.pointer (some ⟨e.b, 0, none⟩)) := by rw [hW3]; exact cells_at (i := 0) (World.alloc_heap_new w2 _) rfl
      have hov3 : W3.ownsRow V.heap.size 57 1 v5 j ((K.take j).flatMap clP_) := own_below hov b3
      have hz3 : V.heap.size ≤ W3.heap.size := Nat.le_trans hz2 b3.size
      have HB3 := Lib.hid (b3.mono hz2)
      clear hov hW3 b3
      go_wp2_with (at_builtin; rw [← HW3.out]; refine append_ptW rfl _ _ rfl V.heap.size v5 j ((K.take j).flatMap clP_) rfl hov3 w2.heap.size (some ⟨e.b, 0, none⟩) rfl hcy (by omega) hz3 ?_; intro v4 w4 hown4 hgrow; have b4 := HB3.out.grown hgrow hz3 (fun k hk => own_block_ge hov3 k hk); have HST := Lib.hid (HDA.out.step HHE.out HI2.out.1 HI2.out.2 b4 hown4); clear hown4 hgrow b4)
      go_roundw
      case rel => exact ⟨j + 1, v4, by omega, by simp, rfl, HST⟩
      case measure => simp [intOf]; omega
    · obtain rfl : j = n := by omega
      have d1 : decide ((j : Int) < (j : Int)) = false := decide_eq_false (by omega)
      obtain ⟨A5, c5, ev, hrd5, hcap5⟩ := own_rds (cl := clP_) (sz := 1) (l := K) HDA.out.own HN.out (by rw [HN.out, List.take_length]) (fun _ _ => rfl)
      have HWS := Lib.hid (HDA.out.ws (HN.out) H.out.pw HSC.out.e)
      rw [← HN.out] at ev hcap5
      subst ev
      have hzr := HDA.out.size
      have hbr := HDA.out.bel
      have hkr := HDA.out.k
      have htm : ∀ e ∈ K, wr.cell? ⟨e.b, 0, none⟩ = some (.int .i64 e.id) ∧ wr.cell? ⟨e.b, 1, none⟩ = some (.int .i64 (e.a : Int)) ∧ e.b < wr.heap.size := fun e he => ⟨cells_at (hkr e he) rfl, cells_at (hkr e he) rfl, heap_lt (hkr e he)⟩
      have HTM := Lib.hid htm
      have HTW : Hid (wsTwo A5 j wr) := Lib.hid (by
        rcases Nat.lt_or_ge j 2 with h9 | h9
        · exact .inl (by omega)
        · obtain rfl : j = 2 := by omega
          have hK2 := HN.out
          obtain ⟨x, y, hxy⟩ : ∃ x y, K = [x, y] := by
            match K, hK2 with
            | [x, y], _ => exact ⟨x, y, rfl⟩
          have hs9 := HSR.out
          rw [hxy] at hrd5 hs9 htm
          obtain ⟨g5, o5, e5, hg5, hr5⟩ := hrd5 (by simp)
          have r0 := hr5 0 x rfl 0 _ rfl
          have r1 := hr5 1 y rfl 0 _ rfl
          have hxa := List.pairwise_cons.1 hs9
          exact .inr ⟨g5, o5, x.b, y.b, (x.a : Int), (y.a : Int), e5, rfl, r0, r1, (htm x (by simp)).2.1, (htm y (by simp)).2.1, by have := hxa.1 y (by simp); omega, hg5, (htm x (by simp)).2.2, (htm y (by simp)).2.2⟩)
      have HRD := Lib.hid hrd5
      clear htm hkr hrd5 HDA
      go_upto_region 16 with (go_at_call 32; refine (wssort HTW.out).mono ?_; rintro e w6 ⟨rfl, x6⟩)
      have hz6 := x6.size
      have HX6 := Lib.hid x6
      go_wp2
      go_loopw [71, 9] (fun z v wq => ∃ i vv, i ≤ j ∧ z = .int .i64 (i : Int) ∧ vv = v ∧ Hid (wq.ownsRow w6.heap.size 3 1 vv i ((K.take i).map fun e => Value.int .i64 e.id)) ∧ Hid (Below w6.heap.size w6 wq)) (fun z _ _ => j - (intOf z).toNat)
      case atStart => exact ⟨0, _, Nat.zero_le _, rfl, rfl, Lib.hid (World.ownsRow_nil _ _ _ _), Lib.hid (Below.refl _ _)⟩
      case round =>
        obtain ⟨i, v7, hi, rfl, rfl, HOW, HBQ⟩ := hrel
        have hzq := HBQ.out.size
        by_cases hij : i < j
        · have d4 : decide ((i : Int) < (j : Int)) = true := decide_eq_true (by omega)
          obtain ⟨e, he⟩ : ∃ e, K[i]? = some e := ⟨_, List.getElem?_eq_getElem (by rw [← HN.out]; exact hij)⟩
          obtain ⟨g5, o5, rfl, hg5, hr5⟩ := HRD.out (by rw [← HN.out]; omega)
          have hb9 := x6.trans (HBQ.out.mono hz6)
          have kp : wr.cell? ⟨g5, o5 + i, none⟩ = some (.pointer (some ⟨e.b, 0, none⟩)) := by
            have := hr5 i e he 0 _ rfl
            rw [Nat.mul_one, Nat.add_zero] at this
            exact (hb9.cell (p := ⟨g5, o5 + i, none⟩) hg5).trans this
          have hte := HTM.out e (List.mem_of_getElem? he)
          have ki : wr.cell? ⟨e.b, 0, none⟩ = some (.int .i64 e.id) := (hb9.cell (p := ⟨e.b, 0, none⟩) hte.2.2).trans hte.1
          have hov := HOW.out
          obtain ⟨W3, hW3⟩ : ∃ W3, W3 = wr.alloc (.cells #[.int .i64 e.id] 3) := ⟨_, rfl⟩
          have HW3 := Lib.hid hW3
          have b3 : Below wr.heap.size wr W3 := by rw [hW3]; exact (Below.refl _ wr).alloc (Nat.le_refl _) _
          have hcy : W3.cell? ⟨wr.heap.size, 0, none⟩ = some (.int .i64 e.id) := by rw [hW3]; exact cells_at (i := 0) (World.alloc_heap_new wr _) rfl
          have hov3 : W3.ownsRow w6.heap.size 3 1 v7 i ((K.take i).map fun e => Value.int .i64 e.id) := own_below hov b3
          have hz3 : w6.heap.size ≤ W3.heap.size := Nat.le_trans hzq b3.size
          have HB3 := Lib.hid (HBQ.out.trans (b3.mono hzq))
          have HHE := Lib.hid he
          clear hov hW3 b3 hb9 hte hr5 hg5 he
          go_wp2_with (at_builtin; rw [← HW3.out]; refine append_intW rfl _ _ rfl w6.heap.size v7 i ((K.take i).map fun e => Value.int .i64 e.id) rfl hov3 wr.heap.size e.id rfl hcy (by omega) hz3 ?_; intro v8 w8 hown8 hgrow; have HB8 := Lib.hid (HB3.out.grown hgrow hz3 (fun k hk => own_block_ge hov3 k hk)); have HO8 := Lib.hid hown8; clear hown8 hgrow)
          go_roundw
          case rel => exact ⟨i + 1, v8, by omega, by simp, rfl, Lib.hid (by rw [List.take_add_one, HHE.out, List.map_append]; exact HO8.out), HB8⟩
          case measure => simp [intOf]; omega
        · obtain rfl : i = j := by omega
          have d4 : decide ((i : Int) < (i : Int)) = false := decide_eq_false (by omega)
          go_wp2
          try rw [Exit.noGoto_ret]
          refine bodyPost_ret (results_tmp rfl _ _ _) rfl ?_
          have hb9 := x6.trans (HBQ.out.mono hz6)
          have hzz := Nat.le_trans hzB hzr
          have ho := HOW.out
          rw [show K.take i = K by rw [HN.out, List.take_length]] at ho
          rw [← HN.out]
          exact ⟨_, rfl, own_base ho (by omega), HWS.out.below hb9, hbr.trans (hb9.mono (Nat.le_trans hbz hzz))⟩
end
end Go.Proofs.Ytjgcpaepaocigaa

/-
  Who goes off, who stays, when time passes (layer 17): in lists. Conditions are each theorem's own.
-/
namespace Go.Proofs.Ytjgcpaepaocigaa
open Go.RowKit Go.Shelf Go.Maps Go.WideMaps
/-- A timer, where it stands at another time. -/
def mv (now : Nat) (e : Te) : Te := ⟨slotN e.a now, e.b, e.id, e.a⟩
def stN (now : Nat) (L : List Te) : List Te := (L.filter (fun e => decide (now < e.a))).map (mv now)
def duN (now : Nat) (L : List Te) : List Te := L.filter (fun e => decide (e.a ≤ now))
section
variable {now0 now q : Nat} {E K L : List Te} {e f : Te}
theorem stN_snoc : stN now (L ++ [e]) = stN now L ++ (if now < e.a then [mv now e] else []) := by
  unfold stN
  rw [List.filter_append, List.map_append]
  congr 1
  by_cases h : now < e.a <;> simp [h]
theorem duN_snoc : duN now (L ++ [e]) = duN now L ++ (if e.a ≤ now then [e] else []) := by
  unfold duN
  rw [List.filter_append]
  congr 1
  by_cases h : e.a ≤ now <;> simp [h]
theorem stN_mem : f ∈ stN now L ↔ ∃ e ∈ L, now < e.a ∧ f = mv now e := by
  unfold stN
  simp only [List.mem_map, List.mem_filter, decide_eq_true_eq]
  constructor
  · rintro ⟨e, ⟨h1, h2⟩, h3⟩; exact ⟨e, h1, h2, h3.symm⟩
  · rintro ⟨e, h1, h2, h3⟩; exact ⟨e, ⟨h1, h2⟩, h3.symm⟩
theorem duN_mem : f ∈ duN now L ↔ f ∈ L ∧ f.a ≤ now := by unfold duN; simp
theorem pg_in (hp : Pg E now K q) (he : e ∈ E) : e ∈ K ↔ e.q < q := by
  have h := hp.1 e.q
  constructor
  · intro hk
    have h1 : e ∈ sl K e.q := sl_mem.2 ⟨hk, rfl⟩
    rw [h] at h1
    split at h1
    · assumption
    · cases h1
  · intro hq
    rw [if_pos hq] at h
    have h1 : e ∈ sl E e.q := sl_mem.2 ⟨he, rfl⟩
    rw [← h] at h1
    exact (sl_mem.1 h1).1
/-- What the slots' order leaves of the order of those of one time. -/
theorem pg_time (hst : ∀ e ∈ E, Std now0 e) (hp : Pg E now K q) (hE : ∀ e ∈ K, e ∈ E) (k : Nat) :
    (∀ e ∈ E, e.a = k → e.q < q) → K.filter (fun e => e.a == k) = E.filter (fun e => e.a == k) := by
  intro hq
  by_cases hex : ∃ e ∈ E, e.a = k
  · obtain ⟨e, he, hk⟩ := hex
    have hslot : ∀ f ∈ E, f.a = k → f.q = e.q := fun f hf h => by rw [(hst f hf).q, (hst e he).q, h, hk]
    have h1 : ∀ L : List Te, (∀ f ∈ L, f ∈ E) → L.filter (fun f => f.a == k) = (sl L e.q).filter (fun f => f.a == k) := fun L hL => by
      unfold sl
      rw [List.filter_filter]
      refine List.filter_congr (fun f hf => ?_)
      by_cases h : f.a = k
      · simp [h, hslot f (hL f hf) h]
      · simp [h]
    rw [h1 K hE, h1 E (fun f hf => hf), hp.1, if_pos (hq e he hk)]
  · have h1 : ∀ L : List Te, (∀ f ∈ L, f ∈ E) → L.filter (fun f => f.a == k) = [] := fun L hL => by
      rw [List.filter_eq_nil_iff]
      intro f hf
      simp
      exact fun h => hex ⟨f, hL f hf, h⟩
    rw [h1 K hE, h1 E (fun f hf => hf)]
theorem pg_none (hst : ∀ e ∈ E, Std now0 e) (hp : Pg E now K q) (hE : ∀ e ∈ K, e ∈ E) (k : Nat) (hex : ∃ e ∈ E, e.a = k ∧ q ≤ e.q) : K.filter (fun e => e.a == k) = [] := by
  obtain ⟨e, he, hk, hq⟩ := hex
  rw [List.filter_eq_nil_iff]
  intro f hf
  simp
  intro h
  have h1 := (pg_in hp (hE f hf)).1 hf
  have h2 : f.q = e.q := by rw [(hst f (hE f hf)).q, (hst e he).q, h, hk]
  omega
structure Gone (E : List Te) (now0 now : Nat) (K : List Te) (q : Nat) : Prop where
  st : ∀ e ∈ E, Std now0 e
  nn : now0 ≤ now
  nd : (E.map (·.b)).Nodup
  pg : Pg E now K q
  sub : ∀ e ∈ K, e ∈ E
  nt : ∀ e ∈ E, q ≤ e.q → tkN now e = false
  kn : (K.map (·.b)).Nodup
theorem Gone.rem_iff (h : Gone E now0 now K q) : e ∈ rem E K ↔ e ∈ E ∧ q ≤ e.q := by
  rw [rem_mem]
  constructor
  · rintro ⟨h1, h2⟩
    refine ⟨h1, ?_⟩
    rcases Nat.lt_or_ge e.q q with h3 | h3
    · exact absurd rfl (h2 e ((pg_in h.pg h1).2 h3))
    · exact h3
  · rintro ⟨h1, h2⟩
    refine ⟨h1, fun x hx e2 => ?_⟩
    have e3 := nd_inj h.nd (h.sub x hx) h1 e2
    subst e3
    have := (pg_in h.pg h1).1 hx
    omega
theorem Gone.rem_std (h : Gone E now0 now K q) (he : e ∈ rem E K) : Std now e := by
  obtain ⟨h1, h2⟩ := h.rem_iff.1 he
  exact (h.st e h1).stay (h.nt e h1 h2) h.nn
theorem Gone.rem_lt (h : Gone E now0 now K q) (he : e ∈ rem E K) : now < e.a := by
  obtain ⟨h1, h2⟩ := h.rem_iff.1 he
  exact tk_lt (h.nt e h1 h2)
theorem Gone.due_in (h : Gone E now0 now K q) (he : e ∈ E) (hd : e.a ≤ now) : e ∈ K := by
  refine (pg_in h.pg he).2 ?_
  rcases Nat.lt_or_ge e.q q with h3 | h3
  · exact h3
  · have := tk_lt (h.nt e he h3); omega
theorem nd_te {L : List Te} (h : (L.map (·.b)).Nodup) : L.Nodup := (List.pairwise_map.1 h).imp (fun h e => h (congrArg _ e))
theorem rem_nd (h : (E.map (·.b)).Nodup) : ((rem E K).map (·.b)).Nodup := List.Nodup.sublist (List.Sublist.map _ List.filter_sublist) h
theorem Gone.perm (h : Gone E now0 now K q) : E.Perm (rem E K ++ K) := by
  have hn : (rem E K ++ K).Nodup := List.nodup_append.2 ⟨nd_te (rem_nd h.nd), nd_te h.kn, fun x hx y hy e => by
    subst e
    exact (rem_mem.1 hx).2 x hy rfl⟩
  refine (List.perm_ext_iff_of_nodup (nd_te h.nd) hn).2 (fun e => ?_)
  rw [List.mem_append]
  constructor
  · intro he
    by_cases hk : e ∈ K
    · exact .inr hk
    · refine .inl (rem_mem.2 ⟨he, fun x hx e2 => hk ?_⟩)
      rw [← nd_inj h.nd (h.sub x hx) he e2]; exact hx
  · rintro (he | he)
    · exact (rem_mem.1 he).1
    · exact h.sub e he
/-- Of each time: who is left, and who is due. -/
theorem Gone.left (h : Gone E now0 now K q) (k : Nat) : ((rem E K ++ stN now K).filter (fun e => e.a == k)).map (·.id) = if k ≤ now then [] else (E.filter (fun e => e.a == k)).map (·.id) := by
  have e1 : (stN now K).filter (fun e => e.a == k) = if k ≤ now then [] else (K.filter (fun e => e.a == k)).map (mv now) := by
    unfold stN
    rw [List.filter_map, List.filter_filter]
    split
    · rename_i hk
      have : K.filter (fun e => ((fun e => e.a == k) ∘ mv now) e && decide (now < e.a)) = [] := by
        rw [List.filter_eq_nil_iff]
        intro e he
        simp [mv]
        omega
      rw [this]; rfl
    · rename_i hk
      congr 1
      refine List.filter_congr (fun e _ => ?_)
      by_cases h2 : e.a = k
      · simp [mv, h2]; omega
      · simp [mv, h2]
  have e2 : k ≤ now → (rem E K).filter (fun e => e.a == k) = [] := fun hk => by
    rw [List.filter_eq_nil_iff]
    intro e he
    have := h.rem_lt he
    simp
    omega
  rw [List.filter_append, e1]
  split
  · rename_i hk
    rw [e2 hk]; rfl
  · rename_i hk
    by_cases hex : ∃ e ∈ E, e.a = k ∧ q ≤ e.q
    · rw [pg_none h.st h.pg h.sub k hex]
      have e3 : (rem E K).filter (fun e => e.a == k) = E.filter (fun e => e.a == k) := by
        unfold rem
        rw [List.filter_filter]
        refine List.filter_congr (fun f hf => ?_)
        by_cases h2 : f.a = k
        · obtain ⟨e, he, hk2, hq⟩ := hex
          have h3 : f.q = e.q := by rw [(h.st f hf).q, (h.st e he).q, h2, hk2]
          have h4 := h.rem_iff.2 ⟨hf, by omega⟩
          unfold rem at h4
          have h5 := (List.mem_filter.1 h4).2
          simp only [h2, h5]; simp
        · simp [h2]
      rw [e3]; simp
    · have hall : ∀ e ∈ E, e.a = k → e.q < q := fun e he hk2 => by
        rcases Nat.lt_or_ge e.q q with h3 | h3
        · exact h3
        · exact absurd ⟨e, he, hk2, h3⟩ hex
      have e4 : (rem E K).filter (fun e => e.a == k) = [] := by
        rw [List.filter_eq_nil_iff]
        intro e he
        obtain ⟨h1, h2⟩ := h.rem_iff.1 he
        simp
        intro h3
        have := hall e h1 h3
        omega
      rw [e4, pg_time h.st h.pg h.sub k hall, List.nil_append, List.map_map]
      rfl
theorem Gone.due (h : Gone E now0 now K q) (k : Nat) : (duN now K).filter (fun e => e.a == k) = if k ≤ now then E.filter (fun e => e.a == k) else [] := by
  unfold duN
  rw [List.filter_filter]
  split
  · rename_i hk
    rw [← pg_time h.st h.pg h.sub k (fun e he hk2 => (pg_in h.pg he).1 (h.due_in he (by omega)))]
    refine List.filter_congr (fun e _ => ?_)
    by_cases h2 : e.a = k
    · simp [h2]; omega
    · simp [h2]
  · rename_i hk
    rw [List.filter_eq_nil_iff]
    intro e he
    simp
    omega
/-- The timers of blocks in another order. -/
def teOf (D : List Te) (b : Nat) : Te := (D.find? (fun e => e.b == b)).getD ⟨0, 0, 0, 0⟩
theorem teOf_mem {D : List Te} (hd : (D.map (·.b)).Nodup) (he : e ∈ D) : teOf D e.b = e := by
  unfold teOf
  rcases h : D.find? (fun x => x.b == e.b) with _ | x
  · have := List.find?_eq_none.1 h e he
    simp at this
  · have h1 := List.find?_some h
    have h2 := List.mem_of_find?_eq_some h
    rw [h, Option.getD_some]
    exact nd_inj hd h2 he (by simpa using h1)
/-- What the stable sort makes of those that are due. -/
theorem Gone.sorted (h : Gone E now0 now K q) {Z : List Nat} (hz : Stb (fun b => ((teOf (duN now K) b).a : Int)) Z ((duN now K).map (·.b))) :
    Ord (Z.map (fun b => ((teOf (duN now K) b).a, (teOf (duN now K) b).id))) (fun k => if k ≤ now then (E.filter (fun e => e.a == k)).map (·.id) else []) := by
  have hnd : ((duN now K).map (·.b)).Nodup := List.Nodup.sublist (List.Sublist.map _ List.filter_sublist) h.kn
  refine ⟨?_, fun k => ?_⟩
  · rw [List.pairwise_map]
    refine hz.1.imp (fun h => ?_)
    exact Int.ofNat_le.1 h
  · rw [List.filter_map, List.map_map]
    have e1 : Z.filter ((fun x : Nat × Int => x.1 == k) ∘ fun b => ((teOf (duN now K) b).a, (teOf (duN now K) b).id)) = Z.filter (fun b => (((teOf (duN now K) b).a : Int) == (k : Int))) := by
      refine List.filter_congr (fun b _ => ?_)
      show ((teOf (duN now K) b).a == k) = (((teOf (duN now K) b).a : Int) == (k : Int))
      rw [Bool.eq_iff_iff, beq_iff_eq, beq_iff_eq]
      exact Int.ofNat_inj.symm
    rw [e1, hz.2 (k : Int), List.filter_map, List.map_map]
    have e2 : (duN now K).filter ((fun b => (((teOf (duN now K) b).a : Int) == (k : Int))) ∘ fun e => e.b) = (duN now K).filter (fun e => e.a == k) := by
      refine List.filter_congr (fun e he => ?_)
      show (((teOf (duN now K) e.b).a : Int) == (k : Int)) = (e.a == k)
      rw [teOf_mem hnd he, Bool.eq_iff_iff, beq_iff_eq, beq_iff_eq]
      exact Int.ofNat_inj
    rw [e2]
    have e4 := h.due k
    refine (List.map_congr_left (g := fun e : Te => e.id) (fun e he => ?_)).trans ?_
    · show (teOf (duN now K) e.b).id = e.id
      rw [teOf_mem hnd (List.mem_filter.1 he).1]
    · rw [e4]
      split <;> rfl
end
end Go.Proofs.Ytjgcpaepaocigaa

/-
  Advance of layer 17, whatever is armed: who goes off, in which order, and who stays. Conditions are each theorem's own.
-/
namespace Go.Proofs.Ytjgcpaepaocigaa
open Go.RowKit Go.Shelf Go.Maps Go.WideMaps
attribute [local go_sem] Oper.semAt_some
/-- What lies about while those that were taken are gone through: j of K are done. -/
structure Dg (V : World) (d M : Nat) (most : Int) (now : Nat) (E K : List Te) (N j : Nat) (v : Value) (w : World) : Prop where
  g : Wg w d M most (now : Int) (rem E K ++ stN now (K.take j))
  k : ∀ e ∈ K.drop j, w.heap[e.b]? = some (.cells (tmG e.id (e.a : Int) none none none) 68 (0, 0))
  dk : ∀ e ∈ duN now (K.take j), w.heap[e.b]? = some (.cells (tmG e.id (e.a : Int) none none none) 68 (0, 0))
  im : Iw w M N ((rem E K ++ stN now (K.take j)).map (·.id) ++ (K.drop j).map (·.id))
  own : w.ownsRow V.heap.size 57 1 v (duN now (K.take j)).length ((duN now (K.take j)).flatMap clP_)
  kv : Kept (Bk d M E) V w
section
variable {V w w2 w4 w5 : World} {d M N j q : Nat} {most : Int} {now0 now : Nat} {E K : List Te} {v v4 : Value} {e : Te}
theorem Dg.ne (h : Dg V d M most now E K N j v w) : d ≠ M ∧ (∀ e ∈ K.drop j, e.b ≠ M) ∧ (∀ e ∈ duN now (K.take j), e.b ≠ M) ∧ ∀ e ∈ rem E K ++ stN now (K.take j), e.b ≠ M := by
  obtain ⟨cs, h2⟩ := h.g.is
  obtain ⟨es, clock, h3⟩ := h.im.is
  refine ⟨fun e => (by rw [e, h3] at h2; cases h2), fun e he e2 => ?_, fun e he e2 => ?_, fun e he e2 => ?_⟩
  · have := h.k e he; rw [e2, h3] at this; cases this
  · have := h.dk e he; rw [e2, h3] at this; cases this
  · obtain ⟨l, p, n, h4⟩ := h.g.blk he
    rw [e2, h3] at h4; cases h4
theorem mem_Bk (hG : Gone E now0 now K q) {x : Te} (hx : x ∈ rem E K ++ stN now (K.take j)) : Bk d M E x.b := by
  rcases List.mem_append.1 hx with hx | hx
  · exact .inr (.inr ⟨x, (rem_mem.1 hx).1, rfl⟩)
  · obtain ⟨f, hf, _, rfl⟩ := stN_mem.1 hx
    exact .inr (.inr ⟨f, hG.sub f (List.mem_of_mem_take hf), rfl⟩)
theorem take_snoc (he : K[j]? = some e) : K.take (j + 1) = K.take j ++ [e] := by rw [List.take_add_one, he]; rfl
theorem drop_cons (he : K[j]? = some e) : K.drop j = e :: K.drop (j + 1) := by
  obtain ⟨hjl, hje⟩ := List.getElem?_eq_some_iff.1 he
  rw [List.drop_eq_getElem_cons hjl, hje]
theorem Dg.fresh (hG : Gone E now0 now K q) (he : K[j]? = some e) : (∀ f ∈ K.drop (j + 1), f.b ≠ e.b) ∧ ∀ f ∈ K.take j, f.b ≠ e.b := by
  have h1 := hG.kn
  have h2 : K = K.take j ++ e :: K.drop (j + 1) := by rw [← drop_cons he, List.take_append_drop]
  rw [h2, List.map_append, List.map_cons, List.nodup_append] at h1
  refine ⟨fun f hf e2 => ?_, fun f hf e2 => ?_⟩
  · exact (List.nodup_cons.1 h1.2.1).1 (List.mem_map.2 ⟨f, hf, e2⟩)
  · exact h1.2.2 f.b (List.mem_map.2 ⟨f, hf, rfl⟩) e.b (by simp) e2
/-- One more stands again. -/
theorem Dg.stay (hG : Gone E now0 now K q) (h : Dg V d M most now E K N j v w) (he : K[j]? = some e) (hs : now < e.a)
    (hw5 : Wg w5 d M most (now : Int) ((rem E K ++ stN now (K.take j)) ++ [⟨slotN e.a now, e.b, e.id, e.a⟩])) (k5 : Kept (fun k => k = e.b ∨ k = d ∨ ∃ x ∈ rem E K ++ stN now (K.take j), k = x.b) w w5) : Dg V d M most now E K N (j + 1) v w5 := by
  have heK := List.mem_of_getElem? he
  obtain ⟨n1, n2, n3, n4⟩ := h.ne
  obtain ⟨f1, f2⟩ := Dg.fresh hG he
  have hd := drop_cons he
  have hdu : duN now (K.take (j + 1)) = duN now (K.take j) := by rw [take_snoc he, duN_snoc, if_neg (by omega), List.append_nil]
  have keepf : ∀ f : Te, f.b ≠ e.b → w.heap[f.b]? = some (.cells (tmG f.id (f.a : Int) none none none) 68 (0, 0)) → w5.heap[f.b]? = some (.cells (tmG f.id (f.a : Int) none none none) 68 (0, 0)) := fun f hf h1 => by
    obtain ⟨g1, g2⟩ := h.g.free h1
    exact (k5.block f.b (heap_lt h1) (by rintro (e2 | e2 | ⟨x, hx, e2⟩); exact hf e2; exact g1 e2; exact g2 x hx e2.symm)).trans h1
  refine ⟨?_, fun f hf => keepf f (f1 f hf) (h.k f (by rw [hd]; simp [hf])), fun f hf => ?_, ?_, ?_, ?_⟩
  · rw [take_snoc he, stN_snoc, if_pos hs, ← List.append_assoc]
    exact hw5
  · rw [hdu] at hf
    exact keepf f (f2 f (duN_mem.1 hf).1) (h.dk f hf)
  · have h1 := h.im.of_block (k5.block M h.im.lt (by
      rintro (e2 | e2 | ⟨x, hx, e2⟩)
      · exact n2 e (by rw [hd]; simp) e2.symm
      · exact n1 e2.symm
      · exact n4 x hx e2.symm))
    rw [take_snoc he, stN_snoc, if_pos hs]
    rw [hd] at h1
    simpa [mv] using h1
  · rw [hdu]
    refine own_keptT h.own k5 (fun g hg cs fr hh => ?_)
    rcases hg with rfl | rfl | ⟨x, hx, rfl⟩
    · have := h.k e (by rw [hd]; simp)
      rw [this] at hh
      injection hh with hh
      injection hh with _ e2 _
      exact absurd e2 (nat_ne (by kernel_rfl))
    · obtain ⟨cs2, h2⟩ := h.g.is
      rw [h2] at hh
      injection hh with hh
      injection hh with _ e2 _
      exact absurd e2 (nat_ne (by kernel_rfl))
    · obtain ⟨l, p, n, h2⟩ := h.g.blk hx
      rw [h2] at hh
      injection hh with hh
      injection hh with _ e2 _
      exact absurd e2 (nat_ne (by kernel_rfl))
  · exact h.kv.trans k5 (fun k _ e2 => by
      rcases e2 with rfl | rfl | ⟨x, hx, rfl⟩
      · exact .inr (.inr ⟨e, hG.sub e heK, rfl⟩)
      · exact .inl rfl
      · exact mem_Bk hG hx)
/-- One more goes off. -/
theorem Dg.due (hG : Gone E now0 now K q) (hV : ∀ k, Bk d M E k → k < V.heap.size) (h : Dg V d M most now E K N j v w) (he : K[j]? = some e) (hs : e.a ≤ now) (hI : Iw w2 M N (((rem E K ++ stN now (K.take j)).map (·.id) ++ (K.drop j).map (·.id)).erase e.id)) (hg : w.drew.grownBy w2 (some M)) (hb : Below V.heap.size w2 w4)
    (ho : w4.ownsRow V.heap.size 57 1 v4 ((duN now (K.take j)).length + 1) ((duN now (K.take j)).flatMap clP_ ++ [.pointer (some ⟨e.b, 0, none⟩)])) : Dg V d M most now E K N (j + 1) v4 w4 := by
  obtain ⟨n1, n2, n3, n4⟩ := h.ne
  have hd := drop_cons he
  have heK := List.mem_of_getElem? he
  have k2 : Kept (fun k => k = M) w.drew w2 := (Kept.of_grown hg).mono (T := fun k => k = M) (fun _ _ e => by injection e)
  have hsz : V.heap.size ≤ w.heap.size := h.kv.size
  have keep : ∀ k, k < V.heap.size → k ≠ M → w4.heap[k]? = w.heap[k]? := fun k hk hn => (hb.block k hk).trans (k2.block k (by show k < w.heap.size; omega) hn)
  have hst : stN now (K.take (j + 1)) = stN now (K.take j) := by rw [take_snoc he, stN_snoc, if_neg (by omega), List.append_nil]
  have hdu : duN now (K.take (j + 1)) = duN now (K.take j) ++ [e] := by rw [take_snoc he, duN_snoc, if_pos hs]
  have inE : ∀ f ∈ K, f.b < V.heap.size := fun f hf => hV _ (.inr (.inr ⟨f, hG.sub f hf, rfl⟩))
  refine ⟨?_, fun f hf => ?_, fun f hf => ?_, ?_, ?_, ?_⟩
  · rw [hst]
    exact h.g.of_blocks (keep d (hV d (.inl rfl)) n1) (fun x hx => keep x.b (hV _ (mem_Bk hG hx)) (n4 x hx))
  · have hf2 : f ∈ K.drop j := by rw [hd]; simp [hf]
    exact (keep f.b (inE f (List.mem_of_mem_drop hf)) (n2 f hf2)).trans (h.k f hf2)
  · rw [hdu] at hf
    rcases List.mem_append.1 hf with hf | hf
    · exact (keep f.b (inE f (List.mem_of_mem_take (duN_mem.1 hf).1)) (n3 f hf)).trans (h.dk f hf)
    · rw [List.mem_singleton.1 hf]
      have he2 : e ∈ K.drop j := by rw [hd]; simp
      exact (keep e.b (inE e heK) (n2 e he2)).trans (h.k e he2)
  · have h1 := hI.of_block (hb.block M (hV M (.inr (.inl rfl))))
    rw [hst]
    refine h1.perm ?_
    rw [hd, List.map_cons]
    have h2 := (List.perm_middle (a := e.id) (l₁ := (rem E K ++ stN now (K.take j)).map (·.id)) (l₂ := (K.drop (j + 1)).map (·.id))).erase e.id
    rwa [List.erase_cons_head] at h2
  · rw [hdu, List.length_append, List.flatMap_append]
    exact ho
  · refine ⟨hb.os.trans (k2.os.trans h.kv.os), hb.tape.trans (k2.tape.trans h.kv.tape), hb.output.trans (k2.output.trans h.kv.output), ?_, fun k hk hn => ?_⟩
    · have h1 := k2.size
      have h2 := hb.size
      have h3 : w.drew.heap.size = w.heap.size := rfl
      omega
    · exact (keep k hk (fun e2 => hn (.inr (.inl e2)))).trans (h.kv.block k hk hn)
theorem st_du (now : Nat) (K : List Te) : (stN now K).length + (duN now K).length = K.length := by
  induction K with
  | nil => rfl
  | cons e K ih =>
    unfold stN duN at ih ⊢
    rw [List.length_map] at ih ⊢
    by_cases h : now < e.a
    · rw [List.filter_cons, if_pos (by simpa using h), List.filter_cons, if_neg (by simpa using h)]
      simp only [List.length_cons]
      omega
    · rw [List.filter_cons, if_neg (by simpa using h), List.filter_cons, if_pos (by simp; omega)]
      simp only [List.length_cons]
      omega
theorem flatP (D : List Te) : D.flatMap clP_ = D.map (fun e => Value.pointer (some ⟨e.b, 0, none⟩)) := by
  induction D with
  | nil => rfl
  | cons x D ih => rw [List.flatMap_cons, List.map_cons, ih]; rfl
/-- A row of pointers of its own, as one that is sorted. -/
theorem PRow.of_own {w : World} {base c : Nat} {A : Option Addr} {D : List Te} (h : w.ownsRow base 57 1 (.slice A D.length c) D.length (D.flatMap clP_)) (hn : 0 < D.length) : ∃ g, A = some ⟨g, 0, none⟩ ∧ base ≤ g ∧ PRow w g 0 (D.map (·.b)) := by
  rcases h.2 with ⟨_, h0⟩ | ⟨g, cap, cur, hv, hb, hh, _, _, _, ht⟩
  · omega
  · injection hv with e1 _ _
    refine ⟨g, e1, hb, cur, _, hh, fun i b hi => ?_⟩
    rw [List.getElem?_map] at hi
    rcases hD : D[i]? with _ | e
    · rw [hD] at hi; cases hi
    · rw [hD] at hi
      injection hi with hi
      have h1 : (D.flatMap clP_)[i]? = some (.pointer (some ⟨e.b, 0, none⟩)) := by
        have h2 := flatP D
        rw [h2, List.getElem?_map, hD]; rfl
      rw [← ht, List.getElem?_take] at h1
      split at h1
      · rw [Nat.zero_add, ← hi]
        simpa using h1
      · cases h1
end
section
variable {w : World} {d M N : Nat} {most : Int} {now0 : Nat} {E : List Te}
set_option maxRecDepth 100000 in
set_option maxHeartbeats 8000000 in
theorem wadvG (h : Wh w d M most now0 E N) (hEl : E.length ≤ 1000000) (now : Nat) (hn0 : now0 ≤ now) (hn1 : now ≤ 2 ^ 40) :
    Calls Try.prog 10 #[.pointer (some ⟨d, 0, none⟩), .int .i64 (now : Int)] w fun x w' => ∃ v O E', x = .returned v ∧ w'.ownsRow w.heap.size 3 1 v O.length (O.map fun x => Value.int .i64 x.2) ∧
      Wh w' d M most now E' N ∧ Kept (Bk d M E) w w' ∧ Ord O (fun k => if k ≤ now then (E.filter (fun e => e.a == k)).map (·.id) else []) ∧ (∀ k, (E'.filter (fun e => e.a == k)).map (·.id) = if k ≤ now then [] else (E.filter (fun e => e.a == k)).map (·.id)) ∧ (∀ k, Bk d M E' k → Bk d M E k) ∧ O.length + E'.length = E.length := by
  have HRE := Lib.hid (wreachedG h.g h.st hEl (now := now))
  have hmi : max (now : Int) (now0 : Int) = (now : Int) := by omega
  have hmn : min (now : Int) 1099511627776 = (now : Int) := by omega
  have kn := h.g.cn
  have HM := Lib.hid (wmadeG h.g)
  have H := Lib.hid h
  have HEL := Lib.hid hEl
  have HNN := Lib.hid (And.intro hn0 hn1)
  clear h hEl hn0 hn1
  go_enter Try.func10, Try.ntmps10
  go_upto_region 4 with (first
    | (go_at_call 27; refine HM.out.mono ?_; rintro e w1 ⟨rfl, rfl⟩))
  clear kn
  go_upto_region 5 with (first
    | (go_at_call 31; refine HRE.out.mono ?_; rintro e w1 ⟨A1, c1, K, q, rfl, hsc, hpg, hnt⟩))
  have HG : Hid (Gone E now0 now K q) := Lib.hid ⟨H.out.st, HNN.out.1, H.out.g.nd, hpg, hsc.sub, hnt, hsc.kn⟩
  have ff := hsc.g.fr 898
  have kn1 := hsc.g.cn
  have HSC := Lib.hid hsc
  clear hsc HRE HM hpg hnt
  go_upto_region 6 with fail
  obtain ⟨V, hV⟩ : ∃ V, V = w1.setCell ⟨d, 898, none⟩ (.int .i64 (now : Int)) := ⟨_, rfl⟩
  have kd : Kept (fun k => k = d) w1 V := by rw [hV]; exact Kept.setCell w1 d 898 _
  have hwt : Wg V d M most (now : Int) (rem E K) := by rw [hV]; exact HSC.out.g.time _
  have hzw := HSC.out.sz
  have hzV := kd.size
  have hltw : ∀ k, Bk d M E k → k < w.heap.size := fun k hk => H.out.lt hk
  have hltV : ∀ k, Bk d M E k → k < V.heap.size := fun k hk => by have := hltw k hk; omega
  have hnd : ∀ e ∈ E, e.b ≠ d := fun e he => H.out.g.bne he
  have hrow : V.ownsRow w.heap.size 57 1 (.slice A1 K.length c1) K.length (K.flatMap clP_) := own_keptT HSC.out.own kd (fun g hg cs fr hh => by
    subst hg
    obtain ⟨cs2, h2⟩ := HSC.out.g.is
    rw [h2] at hh
    injection hh with hh
    injection hh with _ e2 _
    exact absurd e2 (nat_ne (by kernel_rfl)))
  have hkV : ∀ e ∈ K, V.heap[e.b]? = some (.cells (tmG e.id (e.a : Int) none none none) 68 (0, 0)) := fun e he => by
    obtain ⟨h1, h2⟩ := HSC.out.k e he
    exact (kd.block e.b (heap_lt h2) (hnd e h1)).trans h2
  have hkM : M ≠ d := fun e => H.out.ne e.symm
  have kwV : Kept (Bk d M E) w V := (HSC.out.kp.mono (fun k _ e => by
    rcases e with e | e
    · exact .inl e
    · exact .inr (.inr e))).trans kd (fun k _ e => .inl e)
  have hDa : Dg V d M most now E K N 0 (.slice none 0 0) V := ⟨by rw [List.take_zero]; simpa [stN] using hwt, fun e he => hkV e (by simpa using he), fun e he => by simp [duN] at he,
    by
      have h1 := (H.out.im.of_block (w' := V) (by
        rw [kd.block M (by have := hltw M (.inr (.inl rfl)); omega) hkM]
        exact HSC.out.kp.block M (hltw M (.inr (.inl rfl))) (by
          rintro (e | ⟨e, he, e2⟩)
          · exact hkM e
          · exact H.out.neM he e2.symm))).perm (HG.out.perm.map (·.id))
      simpa [stN] using h1, by simpa [duN] using World.ownsRow_nil _ _ _ _, Kept.refl _⟩
  have HDA := Lib.hid hDa
  have HLV := Lib.hid hltV
  have HKW := Lib.hid kwV
  have hKE : K.length ≤ E.length := by have := HSC.out.nl; omega
  have HKE := Lib.hid hKE
  have hEL := HEL.out
  have hKb : K.length ≤ 1000000 := by omega
  have HROW := Lib.hid hrow
  have hcap : K.length ≤ c1 := by
    rcases hrow.2 with ⟨e, h0⟩ | ⟨g, cap, cur, hv, _, _, hle, _⟩
    · injection e with _ e2 _; omega
    · injection hv with _ _ e3; omega
  have hVw : w.heap.size ≤ V.heap.size := by omega
  clear hwt kd hDa hnd ff kn1 hltV hltw hkV hkM kwV hKE hEL hrow hzV hzw
  rw [← hV]
  clear hV
  obtain ⟨n, hn⟩ : ∃ n, n = K.length := ⟨_, rfl⟩
  rw [← hn] at hcap hKb ⊢
  have HN := Lib.hid hn
  clear hn
  go_wp2
  go_loopw [33, 6] (fun z v wr => ∃ j vv, j ≤ n ∧ z = .int .i64 (j : Int) ∧ vv = v ∧ Hid (Dg V d M most now E K N j vv wr)) (fun z _ _ => n - (intOf z).toNat)
  case atStart => exact ⟨0, _, Nat.zero_le _, rfl, rfl, HDA⟩
  case round =>
    clear HDA
    obtain ⟨j, v5, hj, rfl, rfl, HDA⟩ := hrel
    by_cases hjn : j < n
    · have d1 : decide ((j : Int) < (n : Int)) = true := decide_eq_true (by omega)
      obtain ⟨e, he⟩ : ∃ e, K[j]? = some e := ⟨_, List.getElem?_eq_getElem (by rw [← HN.out]; exact hjn)⟩
      have heK := List.mem_of_getElem? he
      have hed : e ∈ K.drop j := by rw [drop_cons he]; simp
      obtain ⟨g, hA1, hgw, hpr⟩ := PRow.of_own HROW.out (by rw [← HN.out]; omega)
      have hgV := hpr.lt
      have hgB : ¬ Bk d M E g := fun hk => by have := H.out.lt hk; omega
      have hprw : PRow wr g 0 (K.map (·.b)) := hpr.of_block (HDA.out.kv.block g hgV hgB)
      have kp : wr.cell? ⟨g, 0 + j, none⟩ = some (.pointer (some ⟨e.b, 0, none⟩)) := hprw.cell (by rw [List.getElem?_map, he]; rfl)
      rw [Nat.zero_add] at kp
      subst hA1
      have hte := HDA.out.k e hed
      have ka : wr.cell? ⟨e.b, 1, none⟩ = some (.int .i64 (e.a : Int)) := cells_at hte rfl
      by_cases hs : now < e.a
      · have d2 : decide ((now : Int) < (e.a : Int)) = true := decide_eq_true (by omega)
        have d3 : decide (now < e.a) = true := decide_eq_true hs
        have HAA : Hid (e.a ≤ 2 ^ 40 ∧ now ≤ 2 ^ 40) := Lib.hid ⟨(H.out.st e (HG.out.sub e heK)).hi, HNN.out.2⟩
        have HSQ : Hid (slotN e.a now < 448) := Lib.hid (slot_lt HAA.out.1 HAA.out.2).2
        have HWV := Lib.hid HDA.out.g
        have HTE : Hid (wr.drew.drew.heap[e.b]? = some (.cells (tmG e.id (e.a : Int) none none none) 68 (0, 0))) := Lib.hid hte
        have hsV : wr.drew.cell? ⟨e.b, 1, none⟩ = some (.int .i64 (e.a : Int)) := ka
        have HHE := Lib.hid he
        have HSS := Lib.hid hs
        clear he heK hed hgw hpr hgV hgB hprw hte
        go_upto_region 11 with fail
        clear kp ka
        refine wp_region_held_drew (S := fun V' => V'.cell? ⟨e.b, 1, none⟩ = some (.int .i64 (e.a : Int))) (by kernel_rfl) hsV (fun hS => ?_)
        refine held_pure (i := 0) (oi := ⟨some 43, _, _, _, _, _⟩) rfl (by kernel_rfl) (by kernel_rfl) (by kernel_rfl) (fun _ _ _ h => h) (by rfl) (v := ?_) (fun w hSw => ?_) hS (fun hS => ?_)
        rotate_left
        · go_simp; try with_reducible rfl
        try go_frame
        refine held_pure (i := 1) (oi := ⟨some 44, _, _, _, _, _⟩) rfl (by kernel_rfl) (by kernel_rfl) (by kernel_rfl) (fun _ _ _ h => h) (by rfl) (v := ?_) (fun w hSw => ?_) hS (fun hS => ?_)
        rotate_left
        · go_simp; try with_reducible rfl
        try go_frame
        refine held_pure (i := 2) (oi := ⟨some 45, _, _, _, _, _⟩) rfl (by kernel_rfl) (by kernel_rfl) (by kernel_rfl) (fun _ _ _ h => h) (by rfl) (v := ?_) (fun w hSw => ?_) hS (fun hS => ?_)
        rotate_left
        · go_simp; try with_reducible rfl
        try go_frame
        refine held_pure (i := 3) (oi := ⟨some 46, _, _, _, _, _⟩) rfl (by kernel_rfl) (by kernel_rfl) (by kernel_rfl) (fun _ _ _ h => h) (by rfl) (v := ?_) (fun w hSw => ?_) hS (fun hS => ?_)
        rotate_left
        · go_simp; try with_reducible rfl
        try go_frame
        refine held_pure (i := 4) (oi := ⟨some 47, _, _, _, _, _⟩) rfl (by kernel_rfl) (by kernel_rfl) (by kernel_rfl) (fun _ _ _ h => h) (by rfl) (v := ?_) (fun w hSw => ?_) hS (fun hS => ?_)
        rotate_left
        · go_simp; try with_reducible rfl
        try go_frame
        refine held_pure (i := 5) (oi := ⟨some 48, _, _, _, _, _⟩) rfl (by kernel_rfl) (by kernel_rfl) (by kernel_rfl) (fun _ _ _ h => h) (by rfl) (v := ?_) (fun w hSw => ?_) hS (fun hS => ?_)
        rotate_left
        · go_simp; try with_reducible rfl
        try go_frame
        refine held_pure (i := 6) (oi := ⟨some 49, _, _, _, _, _⟩) rfl (by kernel_rfl) (by kernel_rfl) (by kernel_rfl) (fun _ _ _ h => h) (by rfl) (v := ?_) (fun w hSw => ?_) hS (fun hS => ?_)
        rotate_left
        · go_simp; try with_reducible rfl
        try go_frame
        refine held_pure (i := 7) (oi := ⟨some 50, _, _, _, _, _⟩) rfl (by kernel_rfl) (by kernel_rfl) (by kernel_rfl) (fun _ _ _ h => h) (by rfl) (fun w hSw => run_load_int rfl rfl hSw) hS (fun hS => ?_)
        try go_frame
        refine held_pure (i := 8) (oi := ⟨some 51, _, _, _, _, _⟩) rfl (by kernel_rfl) (by kernel_rfl) (by kernel_rfl) (fun _ _ _ h => h) (by rfl) (v := ?_) (fun w hSw => ?_) hS (fun hS => ?_)
        rotate_left
        · go_simp; try with_reducible rfl
        try go_frame
        refine wpAnyH_ready (rs := [9]) (by kernel_rfl) (by simp) (AllReadyH.cons (o := ⟨some 52, _, _, _, _, _⟩) rfl (fun K9 hK => ?_) AllReadyH.nil)
        rw [if_pos (by rfl)]
        go_simp
        refine (wslot d e.a now wr.drew HAA.out.1 HAA.out.2).mono ?_
        rintro x y1 ⟨rfl, rfl⟩
        show K9 _ _
        refine hK.out _ _ hS (fun hS => ?_)
        clear hK K9
        try go_frame
        refine wpAnyH_ready (rs := [10]) (by kernel_rfl) (by simp) (AllReadyH.cons (o := ⟨some 53, _, _, _, _, _⟩) rfl (fun K9 hK => ?_) AllReadyH.nil)
        rw [if_pos (by rfl)]
        go_simp
        refine (wstandG (w := wr.drew.drew) (q := slotN e.a now) (b := e.b) (id := e.id) (m := e.a) HWV.out.drew.drew HSQ.out HTE.out).mono ?_
        rintro x y2 ⟨rfl, hw2, hk2⟩
        obtain ⟨l9, p9, n9, hb2⟩ := hw2.blk (e := ⟨slotN e.a now, e.b, e.id, e.a⟩) (by simp)
        have hS2 : y2.cell? ⟨e.b, 1, none⟩ = some (.int .i64 (e.a : Int)) := cells_at hb2 rfl
        have HW2 := Lib.hid hw2
        have HK2 := Lib.hid hk2
        clear hw2 hb2 hk2
        show K9 _ _
        refine hK.out _ _ hS2 (fun hS => ?_)
        clear hK K9
        try go_frame
        refine wpAnyH_done (by kernel_rfl) ?_ _
        have HST := Lib.hid (HDA.out.stay HG.out HHE.out HSS.out HW2.out (((Kept.drew wr).trans (Kept.drew wr.drew) (fun _ _ e => e)).trans HK2.out (fun _ _ e => e)))
        go_wp2_with fail
        go_roundw
        case rel => exact ⟨j + 1, v5, by omega, by simp, rfl, HST⟩
        case measure => simp [intOf]; omega
      · have d2 : decide ((now : Int) < (e.a : Int)) = false := decide_eq_false (by omega)
        have d3 : decide (now < e.a) = false := decide_eq_false hs
        go_upto_region 12 with fail
        have hI := HDA.out.im.of_block (w' := wr.drew) rfl
        obtain ⟨w2, hdr, hI2, hgr2⟩ := hI.drop (x := e.id) (List.mem_append_right _ (List.mem_map_of_mem (f := Te.id) hed)) 0
        have HDR := Lib.hid hdr
        obtain ⟨n1, n2, n3, n4⟩ := HDA.out.ne
        have k2 : Kept (fun k => k = M) wr.drew w2 := (Kept.of_grown hgr2).mono (T := fun k => k = M) (fun _ _ e => by injection e)
        have hsz := HDA.out.kv.size
        have hs1 : wr.drew.cell? ⟨d, 896, none⟩ = some (.map (some M)) ∧ wr.drew.cell? ⟨e.b, 0, none⟩ = some (.int .i64 e.id) := ⟨HDA.out.g.cm, cells_at hte rfl⟩
        have HS2 : Hid (w2.cell? ⟨d, 896, none⟩ = some (.map (some M)) ∧ w2.cell? ⟨e.b, 0, none⟩ = some (.int .i64 e.id)) := Lib.hid
          ⟨(World.cell?_of_block (w := wr.drew) (a := ⟨d, 896, none⟩) (k2.block d HDA.out.g.lt n1)).trans hs1.1, (World.cell?_of_block (w := wr.drew) (a := ⟨e.b, 0, none⟩) (k2.block e.b (heap_lt hte) (n2 e hed))).trans hs1.2⟩
        have HI2 := Lib.hid (And.intro hI2 hgr2)
        obtain ⟨L, hL⟩ : ∃ L, L = (duN now (K.take j)).length := ⟨_, rfl⟩
        have hov : w2.ownsRow V.heap.size 57 1 v5 L ((duN now (K.take j)).flatMap clP_) := by
          rw [hL]
          exact own_keptT ((HDA.out.own).drew) k2 (fun g' hg' cs fr hh => by
            subst hg'
            obtain ⟨es, clock, h3⟩ := hI.is
            rw [h3] at hh; cases hh)
        have hLb : L ≤ 1000000 := by
          have h1 : L ≤ (K.take j).length := by rw [hL]; exact List.length_filter_le _ _
          rw [List.length_take] at h1
          omega
        have hz2 : V.heap.size ≤ w2.heap.size := Nat.le_trans hsz k2.size
        have HOV := Lib.hid hov
        have HHE := Lib.hid he
        have HLL := Lib.hid hL
        have HSS : Hid (e.a ≤ now) := Lib.hid (by omega)
        clear hov hdr hI n1 n2 n3 n4 k2 hI2 hgr2 kp hgw hpr hgV hgB hprw he ka hte hL hed heK
        refine wp_region_held_drew (S := fun w' => w'.cell? ⟨d, 896, none⟩ = some (.map (some M)) ∧ w'.cell? ⟨e.b, 0, none⟩ = some (.int .i64 e.id)) (by kernel_rfl) hs1 (fun hS => ?_)
        clear hs1
        refine held_pure (i := 0) (oi := ⟨some 54, _, _, _, _, _⟩) rfl (by kernel_rfl) (by kernel_rfl) (by kernel_rfl) (fun _ _ _ h => h) (by rfl) (v := ?_) (fun w hSw => ?_) hS (fun hS => ?_)
        rotate_left
        · go_simp; try with_reducible rfl
        try go_frame
        refine held_pure (i := 1) (oi := ⟨some 55, _, _, _, _, _⟩) rfl (by kernel_rfl) (by kernel_rfl) (by kernel_rfl) (fun _ _ _ h => h) (by rfl) (v := ?_) (fun w hSw => ?_) hS (fun hS => ?_)
        rotate_left
        · go_simp; try with_reducible rfl
        try go_frame
        refine held_pure (i := 2) (oi := ⟨some 56, _, _, _, _, _⟩) rfl (by kernel_rfl) (by kernel_rfl) (by kernel_rfl) (fun _ _ _ h => h) (by rfl) (v := ?_) (fun w hSw => ?_) hS (fun hS => ?_)
        rotate_left
        · go_simp; try with_reducible rfl
        try go_frame
        refine held_pure (i := 3) (oi := ⟨some 57, _, _, _, _, _⟩) rfl (by kernel_rfl) (by kernel_rfl) (by kernel_rfl) (fun _ _ _ h => h) (by rfl) (fun w hSw => run_load_mpW rfl rfl hSw.1) hS (fun hS => ?_)
        try go_frame
        refine held_pure (i := 4) (oi := ⟨some 58, _, _, _, _, _⟩) rfl (by kernel_rfl) (by kernel_rfl) (by kernel_rfl) (fun _ _ _ h => h) (by rfl) (v := ?_) (fun w hSw => ?_) hS (fun hS => ?_)
        rotate_left
        · go_simp; try with_reducible rfl
        try go_frame
        refine held_pure (i := 5) (oi := ⟨some 59, _, _, _, _, _⟩) rfl (by kernel_rfl) (by kernel_rfl) (by kernel_rfl) (fun _ _ _ h => h) (by rfl) (v := ?_) (fun w hSw => ?_) hS (fun hS => ?_)
        rotate_left
        · go_simp; try with_reducible rfl
        try go_frame
        refine held_pure (i := 6) (oi := ⟨some 60, _, _, _, _, _⟩) rfl (by kernel_rfl) (by kernel_rfl) (by kernel_rfl) (fun _ _ _ h => h) (by rfl) (v := ?_) (fun w hSw => ?_) hS (fun hS => ?_)
        rotate_left
        · go_simp; try with_reducible rfl
        try go_frame
        refine held_pure (i := 7) (oi := ⟨some 61, _, _, _, _, _⟩) rfl (by kernel_rfl) (by kernel_rfl) (by kernel_rfl) (fun _ _ _ h => h) (by rfl) (fun w hSw => run_load_int rfl rfl hSw.2) hS (fun hS => ?_)
        try go_frame
        refine wpAnyH_ready (rs := [8]) (by kernel_rfl) (by simp) (AllReadyH.cons (o := ⟨none, _, _, _, _, _⟩) rfl (fun K9 hK => ?_) AllReadyH.nil)
        rw [if_pos (by rfl)]
        refine wp_delW (w' := w2) rfl rfl rfl HDR.out ?_
        refine hK.out _ _ HS2.out (fun hS => ?_)
        clear hK K9
        try go_frame
        refine wpAnyH_done (by kernel_rfl) ?_ _
        have hov := HOV.out
        obtain ⟨W3, hW3⟩ : ∃ W3, W3 = w2.alloc (.cells #[.pointer (some ⟨e.b, 0, none⟩)] 57) := ⟨_, rfl⟩
        have HW3 := Lib.hid hW3
        have b3 : Below w2.heap.size w2 W3 := by rw [hW3]; exact (Below.refl _ w2).alloc (Nat.le_refl _) _
        have hcy : W3.cell? ⟨w2.heap.size, 0, none⟩ = some (.pointer (some ⟨e.b, 0, none⟩)) := by rw [hW3]; exact cells_at (i := 0) (World.alloc_heap_new w2 _) rfl
        have hov3 : W3.ownsRow V.heap.size 57 1 v5 L ((duN now (K.take j)).flatMap clP_) := own_below hov b3
        have hz3 : V.heap.size ≤ W3.heap.size := Nat.le_trans hz2 b3.size
        have HB3 := Lib.hid (b3.mono hz2)
        clear hov hW3 b3
        go_wp2_with (at_builtin; rw [← HW3.out]; refine append_ptW rfl _ _ rfl V.heap.size v5 L ((duN now (K.take j)).flatMap clP_) rfl hov3 w2.heap.size (some ⟨e.b, 0, none⟩) rfl hcy hLb hz3 ?_; intro v4 w4 hown4 hgrow; have b4 := HB3.out.grown hgrow hz3 (fun k hk => own_block_ge hov3 k hk); have HST := Lib.hid (HDA.out.due HG.out HLV.out HHE.out HSS.out HI2.out.1 HI2.out.2 b4 (by rw [← HLL.out]; exact hown4)); clear hown4 hgrow b4)
        go_roundw
        case rel => exact ⟨j + 1, v4, by omega, by simp, rfl, HST⟩
        case measure => simp [intOf]; omega
    · obtain rfl : j = n := by omega
      have d1 : decide ((j : Int) < (j : Int)) = false := decide_eq_false (by omega)
      have htk : K.take j = K := by rw [HN.out, List.take_length]
      have hdp : K.drop j = [] := by rw [HN.out, List.drop_length]
      have hown := HDA.out.own
      have hdk := HDA.out.dk
      have him := HDA.out.im
      have hgg := HDA.out.g
      rw [htk] at hown hdk him hgg
      rw [hdp, List.map_nil, List.append_nil] at him
      obtain ⟨A5, c5, ev, _, hcap5⟩ := own_rds (cl := clP_) (sz := 1) (l := duN now K) hown rfl rfl (fun _ _ => rfl)
      subst ev
      have HWH : Hid (Wh wr d M most now (rem E K ++ stN now K) N) := Lib.hid ⟨hgg, him, fun e he => by
        rcases List.mem_append.1 he with he | he
        · exact HG.out.rem_std he
        · obtain ⟨f, hf, hlt, rfl⟩ := stN_mem.1 he
          exact ⟨rfl, Nat.le_of_lt hlt, (H.out.st f (HG.out.sub f hf)).hi⟩, HNN.out.2⟩
      have HBB : Hid (∀ k, Bk d M (rem E K ++ stN now K) k → Bk d M E k) := Lib.hid (fun k hk => by
        rcases hk with e | e | ⟨x, hx, rfl⟩
        · exact .inl e
        · exact .inr (.inl e)
        · have := mem_Bk (d := d) (M := M) (j := j) HG.out (x := x) (by rw [htk]; exact hx)
          exact this)
      have HLEN : Hid ((duN now K).length + (rem E K ++ stN now K).length = E.length) := Lib.hid (by
        have h1 := HSC.out.nl
        have h2 := st_du now K
        rw [List.length_append]
        omega)
      have HKV := Lib.hid HDA.out.kv
      have HDK := Lib.hid hdk
      have HOWN := Lib.hid hown
      have hzr := HDA.out.kv.size
      have HDN : Hid (((duN now K).map (·.b)).Nodup) := Lib.hid (List.Nodup.sublist (List.Sublist.map _ List.filter_sublist) HG.out.kn)
      have HSORT : Hid (Calls Try.prog 32 #[.slice A5 (duN now K).length c5, .func (.func 33) #[] #[]] wr fun x w' => x = .returned (.tuple #[]) ∧ ∃ Z, Stb (fun b => ((teOf (duN now K) b).a : Int)) Z ((duN now K).map (·.b)) ∧ Kept (fun k => V.heap.size ≤ k) wr w' ∧ (0 < (duN now K).length → ∃ g, A5 = some ⟨g, 0, none⟩ ∧ PRow w' g 0 Z)) := Lib.hid (by
        rcases Nat.eq_zero_or_pos (duN now K).length with h0 | h0
        · rw [h0]
          refine (wssort (A := A5) (n := 0) (c := c5) (w := wr) (.inl (Nat.zero_le _))).mono ?_
          rintro x w' ⟨h1, h2⟩
          have e0 : duN now K = [] := List.eq_nil_of_length_eq_zero h0
          refine ⟨h1, [], by rw [e0]; exact Stb.self List.Pairwise.nil, Kept.of_below h2, fun h => absurd h (by omega)⟩
        · obtain ⟨g5, hA5, hgb, hpr⟩ := PRow.of_own hown h0
          subst hA5
          have hkey : KeyR wr g5 (fun b => ((teOf (duN now K) b).a : Int)) ((duN now K).map (·.b)) := fun b hb => by
            obtain ⟨e, he, rfl⟩ := List.mem_map.1 hb
            have h1 := hdk e he
            have h2 := HLV.out e.b (.inr (.inr ⟨e, HG.out.sub e (duN_mem.1 he).1, rfl⟩))
            refine ⟨by omega, heap_lt h1, ?_⟩
            show wr.cell? ⟨e.b, 1, none⟩ = some (.int .i64 ((teOf (duN now K) e.b).a : Int))
            rw [teOf_mem HDN.out he]
            exact cells_at h1 rfl
          refine (wssortG (c := c5) (N := (duN now K).length) (by rw [List.length_map]) (by have := HLEN.out; have := HEL.out; omega) hpr hkey).mono ?_
          rintro x w' ⟨h1, Z, h2, h3, h4⟩
          exact ⟨h1, Z, h3, h4.mono (fun k _ e => by rw [e]; exact hgb), fun _ => ⟨g5, rfl, h2⟩⟩)
      obtain ⟨D, hD⟩ : ∃ D, D = duN now K := ⟨_, rfl⟩
      obtain ⟨nd, hnd⟩ : ∃ nd, nd = D.length := ⟨_, rfl⟩
      rw [← hD] at HSORT HDK HDN hcap5 HLEN HOWN ⊢
      rw [← hnd] at HSORT hcap5 HLEN ⊢
      have HDD := Lib.hid hD
      have HND := Lib.hid hnd
      have hnb : nd ≤ 1000000 := by have := HLEN.out; have := HEL.out; omega
      clear hown hdk him hgg htk hdp HDA hD hnd
      go_upto_region 16 with (go_at_call 32; refine HSORT.out.mono ?_; rintro e w6 ⟨rfl, Z, hz, k6, hpz⟩)
      have hz6 := k6.size
      have HZ := Lib.hid hz
      have HK6 := Lib.hid k6
      have HPZ := Lib.hid hpz
      have HZL : Hid (Z.length = nd) := Lib.hid (by rw [hz.len, List.length_map, HND.out])
      clear hz k6 hpz HSORT
      go_wp2
      go_loopw [71, 9] (fun z v wq => ∃ i vv, i ≤ nd ∧ z = .int .i64 (i : Int) ∧ vv = v ∧ Hid (wq.ownsRow w6.heap.size 3 1 vv i ((Z.take i).map fun b => Value.int .i64 (teOf D b).id)) ∧ Hid (Below w6.heap.size w6 wq)) (fun z _ _ => nd - (intOf z).toNat)
      case atStart => exact ⟨0, _, Nat.zero_le _, rfl, rfl, Lib.hid (World.ownsRow_nil _ _ _ _), Lib.hid (Below.refl _ _)⟩
      case round =>
        obtain ⟨i, v7, hi, rfl, rfl, HOW, HBQ⟩ := hrel
        have hzq := HBQ.out.size
        by_cases hij : i < nd
        · have d4 : decide ((i : Int) < (nd : Int)) = true := decide_eq_true (by omega)
          obtain ⟨b, hb⟩ : ∃ b, Z[i]? = some b := ⟨_, List.getElem?_eq_getElem (by rw [HZL.out]; exact hij)⟩
          obtain ⟨g5, hA5, hpr⟩ := HPZ.out (by omega)
          subst hA5
          have kp : wr.cell? ⟨g5, 0 + i, none⟩ = some (.pointer (some ⟨b, 0, none⟩)) := hpr.below HBQ.out hb
          rw [Nat.zero_add] at kp
          have hbD : b ∈ D.map (·.b) := (HZ.out.mem b).1 (List.mem_of_getElem? hb)
          obtain ⟨e, he, heb⟩ := List.mem_map.1 hbD
          subst heb
          have hte := teOf_mem HDN.out he
          have hce := HDK.out e he
          have hlt := HLV.out e.b (.inr (.inr ⟨e, HG.out.sub e (duN_mem.1 (by rw [← HDD.out]; exact he)).1, rfl⟩))
          have hc6 := (HK6.out.block e.b (heap_lt hce) (by omega)).trans hce
          have ki : wr.cell? ⟨e.b, 0, none⟩ = some (.int .i64 e.id) := (HBQ.out.cell (p := ⟨e.b, 0, none⟩) (heap_lt hc6)).trans (cells_at hc6 rfl)
          have hov := HOW.out
          obtain ⟨W3, hW3⟩ : ∃ W3, W3 = wr.alloc (.cells #[.int .i64 e.id] 3) := ⟨_, rfl⟩
          have HW3 := Lib.hid hW3
          have b3 : Below wr.heap.size wr W3 := by rw [hW3]; exact (Below.refl _ wr).alloc (Nat.le_refl _) _
          have hcy : W3.cell? ⟨wr.heap.size, 0, none⟩ = some (.int .i64 e.id) := by rw [hW3]; exact cells_at (i := 0) (World.alloc_heap_new wr _) rfl
          have hov3 : W3.ownsRow w6.heap.size 3 1 v7 i ((Z.take i).map fun b => Value.int .i64 (teOf D b).id) := own_below hov b3
          have hz3 : w6.heap.size ≤ W3.heap.size := Nat.le_trans hzq b3.size
          have HB3 := Lib.hid (HBQ.out.trans (b3.mono hzq))
          have HHB := Lib.hid hb
          have HTE := Lib.hid hte
          clear hov hW3 b3 hte hpr hb hbD he hce hlt hc6
          go_wp2_with (at_builtin; rw [← HW3.out]; refine append_intW rfl _ _ rfl w6.heap.size v7 i ((Z.take i).map fun b => Value.int .i64 (teOf D b).id) rfl hov3 wr.heap.size e.id rfl hcy (by omega) hz3 ?_; intro v8 w8 hown8 hgrow; have HB8 := Lib.hid (HB3.out.grown hgrow hz3 (fun k hk => own_block_ge hov3 k hk)); have HO8 := Lib.hid hown8; clear hown8 hgrow)
          go_roundw
          case rel => exact ⟨i + 1, v8, by omega, by simp, rfl, Lib.hid (by rw [List.take_add_one, HHB.out, List.map_append]; have := HO8.out; rw [← HTE.out] at this; exact this), HB8⟩
          case measure => simp [intOf]; omega
        · obtain rfl : i = nd := by omega
          have d4 : decide ((i : Int) < (i : Int)) = false := decide_eq_false (by omega)
          go_wp2
          try rw [Exit.noGoto_ret]
          refine bodyPost_ret (results_tmp rfl _ _ _) rfl ?_
          have ho := HOW.out
          rw [show Z.take i = Z by rw [← HZL.out, List.take_length]] at ho
          have hOrd := HG.out.sorted (Z := Z) (by rw [← HDD.out]; exact HZ.out)
          rw [← HDD.out] at hOrd
          refine ⟨_, Z.map (fun b => ((teOf D b).a, (teOf D b).id)), rem E K ++ stN now K, rfl, ?_, ?_, ?_, hOrd, HG.out.left, HBB.out, by rw [List.length_map, HZL.out]; exact HLEN.out⟩
          · rw [List.length_map, List.map_map, HZL.out]
            exact own_base ho (by omega)
          · exact HWH.out.of_blocks (fun k hk => by
              have h1 := HLV.out k (HBB.out k hk)
              rw [HBQ.out.block k (by omega), HK6.out.block k (by omega) (by omega)])
          · refine ((HKW.out.trans HKV.out (fun _ _ e => e)).trans HK6.out (T := fun k => V.heap.size ≤ k) (fun k hk e => by omega)).then_below ?_
            exact HBQ.out
end
end Go.Proofs.Ytjgcpaepaocigaa

/-
  Advance of layer 17, where one timer is reached that is not due yet: it stands in another slot. Conditions are each theorem's own.
-/
namespace Go.Proofs.Ytjgcpaepaocigaa
open Go.RowKit Go.Shelf Go.Maps Go.WideMaps
end Go.Proofs.Ytjgcpaepaocigaa

/-
  What layer 17's laws call first: numbers held against each other, a new wheel, the small example. Conditions are each theorem's own.
-/
namespace Go.Proofs.Ytjgcpaepaocigaa
open Go.RowKit Go.Shelf Go.Maps Go.WideMaps Go.ChangeShapes Go.WideShapes
def clI_ (z : Int) : List Value := [.int .i64 z]
theorem flatI (zs : List Int) : zs.map (Value.int .i64) = zs.flatMap clI_ := by
  induction zs with
  | nil => rfl
  | cons z zs ih => rw [List.map_cons, List.flatMap_cons, ih]; rfl
theorem weq {w : World} {b : Nat} {v : Value} {zs ys : List Int} {g : Nat} (ho : w.ownsRow b 3 1 v zs.length (zs.map (Value.int .i64))) (hg : w.heap[g]? = some (.cells (ys.map (Value.int .i64)).toArray 3 (0, 0))) (hz : zs.length ≤ 1000000) (hy : ys.length ≤ 1000000) :
    Calls Try.prog 11 #[v, .slice (some ⟨g, 0, none⟩) ys.length ys.length] w fun e w' => e = .returned (.bool (decide (zs = ys))) ∧ Below w.heap.size w w' := by
  obtain ⟨A, c, ev, hrd, _⟩ := own_rds (cl := clI_) (sz := 1) (l := zs) ho rfl (flatI zs) (fun _ _ => rfl)
  subst ev
  cases zs with
  | nil =>
    refine (Try.slices_Equal_int_empty A (some ⟨g, 0, none⟩) c ys.length ys.length w (by omega)).mono ?_
    rintro e w' ⟨rfl, rfl⟩
    refine ⟨?_, Below.refl _ _⟩
    cases ys <;> simp
  | cons z zs =>
    obtain ⟨g1, o1, rfl, _, hr⟩ := hrd (by simp)
    refine (Try.slices_Equal_int g1 o1 (z :: zs).length c g 0 ys.length ys.length (z :: zs) ys w (Nat.le_refl _) (Nat.le_refl _) (by omega) (by omega) (fun j hj => ?_) (fun j hj => ?_)).mono ?_
    · have := hr j (z :: zs)[j] (List.getElem?_eq_getElem hj) 0 _ rfl
      rw [Nat.mul_one, Nat.add_zero] at this
      rw [this, List.getD_eq_getElem?_getD, List.getElem?_eq_getElem hj]; rfl
    · have h0 : (ys.map (Value.int .i64)).toArray[j]? = some (.int .i64 (ys.getD j 0)) := by
        rw [List.getElem?_toArray, List.getElem?_map, List.getElem?_eq_getElem hj, List.getD_eq_getElem?_getD, List.getElem?_eq_getElem hj]; rfl
      rw [Nat.zero_add]
      exact cells_at hg h0
    · rintro e w' ⟨rfl, q, rfl⟩
      refine ⟨?_, below_drewN (Below.refl _ _) q⟩
      rw [List.take_length, List.take_length]
      congr 2
      rw [Bool.eq_iff_iff]; simp
section
variable {w w' : World} {B0 d M N b n : Nat} {most : Int} {now : Nat} {E : List Te}
theorem wnewS (most : Int) (w : World) (h0 : 0 ≤ most) (h1 : most ≤ 1048576) : Calls Try.prog 8 #[.int .i64 most] w fun e w' =>
    ∃ d M, e = .returned (.tuple #[.pointer (some ⟨d, 0, none⟩), .int .i64 0]) ∧ Ws w' w.heap.size d M most 0 [] 0 ∧ Below w.heap.size w w' := by
  refine (wnew most w h0 h1).mono ?_
  rintro e w' ⟨d, M, rfl, hw, hi, hb, hd, hM, _⟩
  exact ⟨d, M, rfl, ⟨⟨_, hw, fun e he => (by cases he), fun _ _ => rfl⟩, hi, fun e he => (by cases he), List.Pairwise.nil, ⟨hd, hM⟩⟩, hb⟩
theorem warm0 (h : Ws w B0 d M most 0 E N) (id : Int) (hid : 0 ≤ id ∧ id ≤ 2147483648) (a q : Nat) (z : Int) (hza : z = (a : Int)) (ha : a ≤ 2 ^ 40) (hnew : ∀ e ∈ E, e.id ≠ id) (hroom : (E.length : Int) < most) (hN : N < maxLen) (hqe : slotN a 0 = q) (hq : ∀ e ∈ E, e.q ≠ q) :
    Calls Try.prog 9 #[.pointer (some ⟨d, 0, none⟩), .int .i64 id, .int .i64 z] w fun e w' => e = .returned (.int .i64 0) ∧ ∃ b, Ws w' B0 d M most 0 (⟨q, b, id, a⟩ :: E) (N + 1) ∧ Below B0 w w' := by
  subst hza
  have := warm h id hid a ha (by decide) hnew hroom hN (by rw [Nat.max_eq_left (Nat.zero_le a), hqe]; exact hq)
  rw [Nat.max_eq_left (Nat.zero_le a), hqe] at this
  exact this.mono fun e w' ⟨h1, b, _, h2, h3⟩ => ⟨h1, b, h2, h3⟩
end
theorem slot5 : slotN 5 0 = 5 := by decide +kernel
theorem slot3 : slotN 3 0 = 3 := by decide +kernel
set_option maxRecDepth 100000 in
set_option maxHeartbeats 1000000 in
theorem awake17 (w : World) : Calls Try.prog 7 #[] w fun e w' => e = .returned (.bool true) ∧ Below w.heap.size w w' := by
  go_enter Try.func7, Try.ntmps7
  go_upto_region 2 with (go_at_call 8; refine (wnewS 9 w (by decide) (by decide)).mono ?_; rintro e w1 ⟨d, M, rfl, h1, x1⟩)
  have HA1 := Lib.hid (warm0 h1 1 ⟨by decide, by decide⟩ 5 5 5 rfl (by decide) (fun e he => by cases he) (by decide) (by decide) slot5 (fun e he => by cases he))
  clear h1
  go_upto_region 4 with (first
    | (go_at_call 9; with_reducible refine HA1.out.mono ?_; rintro e w2 ⟨rfl, b1, h2, x2⟩; have HA2 := Lib.hid (warm0 h2 2 ⟨by decide, by decide⟩ 3 3 3 rfl (by decide) (fun e he => by rw [List.mem_singleton] at he; rw [he]; show (1 : Int) ≠ 2; decide) (by simp) (by decide) slot3 (fun e he => by rw [List.mem_singleton] at he; rw [he]; show (5 : Nat) ≠ 3; decide)); clear h2)
    | (go_at_call 9; with_reducible refine HA2.out.mono ?_; rintro e w3 ⟨rfl, b2, h3, x3⟩))
  have hAd := wadv_due h3 (by simp) (by simp) (fun e he => by simp at he; rcases he with rfl | rfl; exact (by decide : (3 : Nat) ≤ 2 ^ 40); exact (by decide : (5 : Nat) ≤ 2 ^ 40)) 5 (by decide) (by decide)
  have hT : ([⟨3, b2, 2, 3⟩, ⟨5, b1, 1, 5⟩] : List Te).takeWhile (tkN 5) = [⟨3, b2, 2, 3⟩, ⟨5, b1, 1, 5⟩] := by simp [List.takeWhile, tkN, shN]
  have hD : ([⟨3, b2, 2, 3⟩, ⟨5, b1, 1, 5⟩] : List Te).dropWhile (tkN 5) = [] := by simp [List.dropWhile, tkN, shN]
  rw [hT, hD, show ((5 : Nat) : Int) = 5 from rfl] at hAd
  have HAD := Lib.hid (hAd (fun e he => by simp at he; rcases he with rfl | rfl; exact (by decide : (3 : Nat) ≤ 5); exact (by decide : (5 : Nat) ≤ 5)) (by simp) (by simp))
  have hx3 := x1.trans ((x2.trans (x3.mono (Nat.le_refl _))).mono (Nat.le_refl _))
  clear hAd hT hD h3
  go_wp2_with (first
    | (go_at_call 10; with_reducible refine HAD.out.mono ?_; rintro e w4 ⟨v4, rfl, ho4, h4, x4⟩; obtain ⟨T4, hT4, _, _⟩ := h4.T; have hEQ := Lib.hid (weq (zs := [2, 1]) (ys := [2, 1]) (own_below ho4 ((Below.refl w4.heap.size w4).alloc (Nat.le_refl _) (.cells #[.int .i64 2, .int .i64 1] 3))) (World.alloc_heap_new w4 (.cells #[.int .i64 2, .int .i64 1] 3)) (by decide) (by decide)); have HT4 := Lib.hid hT4; have HI4 := Lib.hid h4.im; clear ho4 h4 hT4)
    | (go_at_call 11; refine hEQ.out.mono ?_; rintro e w5 ⟨rfl, x5⟩)
    | (go_at_call 25; refine (wlen (T := T4) (HT4.out.of_block ((x5.block d (by have := HT4.out.lt; simp; omega)).trans (Below.heap_alloc w4 _ d HT4.out.lt))) (HI4.out.of_block ((x5.block M (by have := HI4.out.lt; simp; omega)).trans (Below.heap_alloc w4 _ M HI4.out.lt)))).mono ?_; rintro e w6 ⟨rfl, rfl⟩))
  go_ret
  have a4 : w.heap.size ≤ w4.heap.size := Nat.le_trans hx3.size x4.size
  have xa : Below w4.heap.size w4 (w4.alloc (.cells #[.int .i64 2, .int .i64 1] 3)) := (Below.refl _ w4).alloc (Nat.le_refl _) _
  exact ⟨rfl, hx3.trans (x4.trans ((xa.mono a4).trans (x5.mono (Nat.le_trans a4 xa.size))))⟩
/-! ### A parameter of type []uint32 -/
/-! ### Where the law's two timers stand -/
end Go.Proofs.Ytjgcpaepaocigaa

/-
  What WheelSteps wants: two wheels side by side, rows of numbers joined and held against each other, a parameter of numbers of 16 bits. Conditions are each theorem's own.
-/
namespace Go.Proofs.Ytjgcpaepaocigaa
open Go.RowKit Go.Shelf Go.Maps Go.WideMaps Go.ChangeShapes Go.WideShapes
/-- A slice of numbers of 16 bits that reads as zs. -/
def Rd16 (w : World) (B : Nat) (A : Option Addr) (zs : List Int) : Prop :=
  0 < zs.length → ∃ b off, A = some ⟨b, off, none⟩ ∧ b < B ∧ ∀ j, j < zs.length → w.cell? ⟨b, off + j, none⟩ = some (.int .u16 (zs.getD j 0))
section
variable {P : Program} {w : World} {base : Nat} {t e : TypeId} {v : Value} {H : Type} {enc : TypeId × Value → H} {d : DataW H} {p : List MemPlace}
theorem get_u16s (ht : P.underlying t = some (.slice e)) (he : P.underlying e = some (.int .u16)) (hc : P.cellsOf e = 1) (hv : Value.okWide P w .any base t v) (h : DataW.Trod enc P w 0 (fun _ => true) true t v d p) :
    ∃ A c zs, v = .slice A zs.length c ∧ Rd16 w w.heap.size A zs ∧ zs.length ≤ c ∧ c ≤ maxLen ∧ ∀ n ∈ zs, (Lit.int .u16 n).wf = true := by
  obtain ⟨A, len, cap, zs, rfl, hr⟩ := get_row ht he hc hv h
  rcases hr with ⟨rfl, rfl, rfl, rfl⟩ | ⟨x, rfl, hl, hm, hz, hcell, hwz⟩
  · exact ⟨none, 0, [], rfl, fun hn => absurd hn (by simp), Nat.le_refl _, Nat.zero_le _, by simp⟩
  · have e1 : (zs.take len).length = len := by simp; omega
    refine ⟨some x, cap, zs.take len, by rw [e1], fun hn => ?_, by omega, hm, fun n hn => hwz n (List.mem_of_mem_take hn)⟩
    have hc0 := hcell 0 (by omega)
    have hlt := cell_block hc0
    obtain ⟨b, off, spot⟩ := x
    have hspot : spot = none := by simpa [Addr.add] using World.cell?_spot hc0
    subst hspot
    refine ⟨b, off, rfl, by simpa [Addr.add] using hlt, fun j hj => ?_⟩
    have hc := hcell j (by omega)
    rw [add_off] at hc
    rw [hc]
    congr 2
    simp only [List.getD_eq_getElem?_getD, List.getElem?_take]
    rw [if_pos (by omega)]
end
/-! ### What the law wants -/
theorem u8_bd {a : Int} (h : (Lit.int .u8 a).wf = true) : 0 ≤ a ∧ a ≤ 255 := by
  have := h
  simp [Lit.wf] at this
  have e1 : IntKind.u8.min = 0 := by decide
  have e2 : IntKind.u8.max = 255 := by decide
  omega
theorem u16_bd {a : Int} (h : (Lit.int .u16 a).wf = true) : 0 ≤ a ∧ a ≤ 65535 := by
  have := h
  simp [Lit.wf] at this
  have e1 : IntKind.u16.min = 0 := by decide
  have e2 : IntKind.u16.max = 65535 := by decide
  omega
theorem append_intsW {w : World} {ops : Array Oper} {rest : List Oper} {o : Oper} {a : Act} {Q : Exit → Act → World → Prop} (hgd : o.guard = none) (s x : Operand)
    (ho : o.op = .call { callee := .builtin .append, args := #[s, x], argTypes := #[30, 30] })
    (base : Nat) (v : Value) (n : Nat) (xs : List Value) (hs : a.eval s = v) (hown : w.ownsRow base 3 1 v n xs)
    (b : Nat) (y : Value) (zs : List Int) (hx : a.eval x = y) (hy : w.ownsRow b 3 1 y zs.length (zs.map (Value.int .i64)))
    (hlen : n + zs.length ≤ 1000001) (hbase : base ≤ w.heap.size)
    (h : ∀ v' w', w'.ownsRow base 3 1 v' (n + zs.length) (xs ++ zs.map (Value.int .i64)) → w.grownBy w' v.ownBlock → wpList Try.prog ops Q rest (a.put o.dst v') w') : wpList Try.prog ops Q (o :: rest) a w := by
  obtain ⟨i0, hi, hz0, hz1, hz2⟩ := info_parts info_intW
  rcases hy.2 with ⟨e1, e2⟩ | ⟨g, cap, cur, e1, hb, hh, hle, hmx, hsz, ht⟩
  · have h0 : zs = [] := List.eq_nil_of_length_eq_zero e2
    subst h0
    exact wpList_append_own_none hgd s x 30 ho base 3 i0 1 Try.underlying30 hi v n xs hs hown (hx.trans e1) (h v w (by simpa using hown) (World.grownBy.refl w _))
  · refine wpList_append_own w hgd s x 30 ho base 3 i0 (.int .i64 0) 1 8 Try.underlying30 hi hz0 hz1 hz2 rfl (by decide) v n xs hs hown ⟨g, 0, none⟩ zs.length cap (zs.map (Value.int .i64)) (hx.trans e1)
      (by rw [List.length_map, Nat.mul_one]) (fun j u hu => ?_) (fun u hu => by
        obtain ⟨z, _, rfl⟩ := List.mem_map.1 hu
        rfl) (by unfold maxLen; omega) (by omega) hbase (fun v' w' h1 h2 _ => h v' w' h1 h2)
    rw [add_off, Nat.zero_add]
    refine cells_at hh ?_
    rw [← ht, List.getElem?_take] at hu
    split at hu
    · simpa using hu
    · cases hu
theorem weq2 {w : World} {b b' : Nat} {v v' : Value} {zs : List Int} (h : w.ownsRow b 3 1 v zs.length (zs.map (Value.int .i64))) (h' : w.ownsRow b' 3 1 v' zs.length (zs.map (Value.int .i64))) (hz : zs.length ≤ 1000000) :
    Calls Try.prog 11 #[v, v'] w fun e w' => e = .returned (.bool true) ∧ Below w.heap.size w w' := by
  obtain ⟨A, c, ev, hrd, _⟩ := own_rds (cl := clI_) (sz := 1) (l := zs) h rfl (flatI zs) (fun _ _ => rfl)
  obtain ⟨A', c', ev', hrd', _⟩ := own_rds (cl := clI_) (sz := 1) (l := zs) h' rfl (flatI zs) (fun _ _ => rfl)
  subst ev
  subst ev'
  cases zs with
  | nil =>
    refine (Try.slices_Equal_int_empty A A' c 0 c' w (by omega)).mono ?_
    rintro e w' ⟨rfl, rfl⟩
    exact ⟨by simp, Below.refl _ _⟩
  | cons z zs =>
    obtain ⟨g1, o1, rfl, _, hr⟩ := hrd (by simp)
    obtain ⟨g2, o2, rfl, _, hr2⟩ := hrd' (by simp)
    refine (Try.slices_Equal_int g1 o1 (z :: zs).length c g2 o2 (z :: zs).length c' (z :: zs) (z :: zs) w (Nat.le_refl _) (Nat.le_refl _) (by omega) (by omega) (fun j hj => ?_) (fun j hj => ?_)).mono ?_
    · have := hr j (z :: zs)[j] (List.getElem?_eq_getElem hj) 0 _ rfl
      rw [Nat.mul_one, Nat.add_zero] at this
      rw [this, List.getD_eq_getElem?_getD, List.getElem?_eq_getElem hj]; rfl
    · have := hr2 j (z :: zs)[j] (List.getElem?_eq_getElem hj) 0 _ rfl
      rw [Nat.mul_one, Nat.add_zero] at this
      rw [this, List.getD_eq_getElem?_getD, List.getElem?_eq_getElem hj]; rfl
    · rintro e w' ⟨rfl, q, rfl⟩
      refine ⟨?_, below_drewN (Below.refl _ _) q⟩
      simp
/-! ### Two wheels -/
structure Tw (u : World) (d1 M1 d2 M2 : Nat) (n1 n2 : Nat) (E1 E2 : List Te) (N1 N2 : Nat) (w : World) : Prop where
  one : Wh w d1 M1 100 n1 E1 N1
  two : Wh w d2 M2 100 n2 E2 N2
  dj : ∀ k, Bk d1 M1 E1 k → ¬ Bk d2 M2 E2 k
  b1 : ∀ k, Bk d1 M1 E1 k → u.heap.size ≤ k
  b2 : ∀ k, Bk d2 M2 E2 k → u.heap.size ≤ k
  bel : Below u.heap.size u w
section
variable {u w w' : World} {d1 M1 d2 M2 n1 n2 N1 N2 : Nat} {E1 E2 E' : List Te}
theorem Tw.swap (h : Tw u d1 M1 d2 M2 n1 n2 E1 E2 N1 N2 w) : Tw u d2 M2 d1 M1 n2 n1 E2 E1 N2 N1 w := ⟨h.two, h.one, fun k h2 h1 => h.dj k h1 h2, h.b2, h.b1, h.bel⟩
theorem Tw.step (h : Tw u d1 M1 d2 M2 n1 n2 E1 E2 N1 N2 w) {n N : Nat} (h1 : Wh w' d1 M1 100 n E' N) (k : Kept (Bk d1 M1 E1) w w') (hB : ∀ k, Bk d1 M1 E' k → Bk d1 M1 E1 k ∨ w.heap.size ≤ k) : Tw u d1 M1 d2 M2 n n2 E' E2 N N2 w' := by
  refine ⟨h1, h.two.kept k (fun i hi h2 => h.dj i h2 hi), fun i hi h2 => ?_, fun i hi => ?_, h.b2, h.bel.trans (k.below h.bel.size (fun i hi => h.b1 i hi))⟩
  · rcases hB i hi with h3 | h3
    · exact h.dj i h3 h2
    · have := h.two.lt h2; omega
  · rcases hB i hi with h3 | h3
    · exact h.b1 i h3
    · have := h.bel.size; omega
theorem Tw.belowB (h : Tw u d1 M1 d2 M2 n1 n2 E1 E2 N1 N2 w) {B : Nat} (hb : Below B w w') (h1 : ∀ k, Bk d1 M1 E1 k → k < B) (h2 : ∀ k, Bk d2 M2 E2 k → k < B) (hB : u.heap.size ≤ B) : Tw u d1 M1 d2 M2 n1 n2 E1 E2 N1 N2 w' :=
  ⟨h.one.of_blocks (fun k hk => hb.block k (h1 k hk)), h.two.of_blocks (fun k hk => hb.block k (h2 k hk)), h.dj, h.b1, h.b2, h.bel.trans (hb.mono hB)⟩
theorem own_ints {d M n N b : Nat} {most : Int} {E : List Te} {v : Value} {m : Nat} {xs : List Value} (h : w.ownsRow b 3 1 v m xs) (hW : Wh w d M most n E N) (k : Kept (Bk d M E) w w') : w'.ownsRow b 3 1 v m xs := by
  refine own_keptT h k (fun g hg cs fr hh => ?_)
  rcases hg with rfl | rfl | ⟨x, hx, rfl⟩
  · obtain ⟨cs2, h2⟩ := hW.g.is
    rw [h2] at hh
    injection hh with hh
    injection hh with _ e2 _
    exact absurd e2 (nat_ne (by kernel_rfl))
  · obtain ⟨es, clock, h3⟩ := hW.im.is
    rw [h3] at hh; cases hh
  · obtain ⟨l, p, n, h2⟩ := hW.g.blk hx
    rw [h2] at hh
    injection hh with hh
    injection hh with _ e2 _
    exact absurd e2 (nat_ne (by kernel_rfl))
theorem Bk_snoc {d M : Nat} {E : List Te} {e : Te} {k : Nat} (h : Bk d M (E ++ [e]) k) : Bk d M E k ∨ k = e.b := by
  rcases h with h | h | ⟨x, hx, h⟩
  · exact .inl (.inl h)
  · exact .inl (.inr (.inl h))
  · rcases List.mem_append.1 hx with hx | hx
    · exact .inl (.inr (.inr ⟨x, hx, h⟩))
    · rw [List.mem_singleton.1 hx] at h
      exact .inr h
/-- Time and id of each. -/
def pr (e : Te) : Nat × Int := (e.a, e.id)
theorem pr_ids {E : List Te} {L : List (Nat × Int)} (h : E.map pr = L) (k : Nat) : (E.filter (fun e => e.a == k)).map (·.id) = (L.filter (fun x => x.1 == k)).map (·.2) := by
  subst h
  rw [List.filter_map, List.map_map]
  rfl
/-- How many go off. -/
theorem Ord.len {O L : List (Nat × Int)} {F : Nat → List Int} (h : Ord O F) (hF : ∀ k, F k = (L.filter (fun x => x.1 == k)).map (·.2)) : O.length = L.length := by
  have hp : (O.map (·.1)).Perm (L.map (·.1)) := List.perm_iff_count.2 (fun k => by
    have h1 := congrArg List.length (h.fl k)
    rw [hF k, List.length_map, List.length_map] at h1
    rw [List.count_eq_countP, List.count_eq_countP, List.countP_map, List.countP_map, List.countP_eq_length_filter, List.countP_eq_length_filter]
    exact h1)
  have := hp.length_eq
  rwa [List.length_map, List.length_map] at this
/-- One step more of time. -/
theorem Ord.more {O O' : List (Nat × Int)} {G : Nat → List Int} {t T : Nat} (h : Ord O (fun k => if k < T then G k else [])) (h' : Ord O' (fun k => if k ≤ t then (if k < T then [] else G k) else [])) (hT : T ≤ t + 1) : Ord (O ++ O') (fun k => if k < t + 1 then G k else []) := by
  refine ⟨List.pairwise_append.2 ⟨h.up, h'.up, fun x hx y hy => ?_⟩, fun k => ?_⟩
  · have h1 : x.1 < T := by
      have := h.fl x.1
      rcases Nat.lt_or_ge x.1 T with h2 | h2
      · exact h2
      · rw [if_neg (by omega), List.map_eq_nil_iff, List.filter_eq_nil_iff] at this
        exact absurd (this x hx) (by simp)
    have h2 : T ≤ y.1 := by
      have := h'.fl y.1
      rcases Nat.lt_or_ge y.1 T with h2 | h2
      · rw [if_pos h2] at this
        have h3 : (O'.filter (fun z => z.1 == y.1)).map (·.2) = [] := by rw [this]; split <;> rfl
        rw [List.map_eq_nil_iff, List.filter_eq_nil_iff] at h3
        exact absurd (h3 y hy) (by simp)
      · exact h2
    omega
  · have h1 := h.fl k
    have h2 := h'.fl k
    rw [List.filter_append, List.map_append, h1, h2]
    by_cases hk : k < T
    · rw [if_pos hk, if_pos hk, if_pos (by omega : k < t + 1)]
      split <;> simp
    · rw [if_neg hk, if_neg hk]
      by_cases hk2 : k ≤ t
      · rw [if_pos hk2, if_pos (by omega : k < t + 1)]; simp
      · rw [if_neg hk2, if_neg (by omega : ¬ k < t + 1)]; simp
theorem Ord.congr {O : List (Nat × Int)} {F G : Nat → List Int} (h : Ord O F) (e : ∀ k, F k = G k) : Ord O G := ⟨h.up, fun k => (h.fl k).trans (e k)⟩
end
end Go.Proofs.Ytjgcpaepaocigaa
