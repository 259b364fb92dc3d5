/-
  Contracts and lemmas on which the proofs of this seat stand (several texts in one). Conditions are each theorem's own.
-/
import Derived.Test.YtggcjjcgiphjeaaMb1
import Derived.Test.YtggcjjcgiphjeaaMb5
import Derived.WalkMore

/-
  Contract of tcp.Options and of the iterator that it hands back. Conditions are each theorem's own.
-/
namespace Go.Proofs.Ytggcjjcgiphjeaa
open Go.RowKit Go.Shelf
attribute [local go_sem] Oper.semAt_some

/-- An option as it comes: where it begins, and where its bytes lie. -/
structure OI where
  at_ : Nat
  A : Option Addr
  c : Nat
  n : Nat
def encO (x : OI) : Array Value := #[.int .i64 (x.at_ : Int), .slice x.A x.n x.c]
/-- What is known of it when it comes. -/
def GO (b : List UInt8) (pre : List OI) (x : OI) (W : World) : Prop :=
  (∃ more, places b = pre.map (·.at_) ++ x.at_ :: more) ∧ x.n = optL b x.at_ ∧ Arg W W.heap.size x.A x.c ((b.drop x.at_).take x.n)
theorem cell_putLoop {W : World} {p : Addr} {v : Value} {l : Nat} {r r' : Loop} (h : W.cell? p = some v) (hl : W.heap[l]? = some (.loop r)) : (W.putObj l (.loop r')).cell? p = some v := by
  obtain ⟨o, ho, hc⟩ := cells_of_cell h
  have hne : p.block ≠ l := fun e => by rw [e, hl] at ho; cases ho; cases hc
  exact (World.cell?_of_block (World.putObj_heap_other hne)).trans h
theorem GO.turn {b : List UInt8} {pre : List OI} {x : OI} {W : World} {l : Nat} {r r' : Loop} (h : GO b pre x W) (hl : W.heap[l]? = some (.loop r)) : GO b pre x (W.putObj l (.loop r')) := by
  refine ⟨h.1, h.2.1, ⟨fun hn => ?_, h.2.2.cap, h.2.2.none_⟩⟩
  obtain ⟨b0, off, e, hb, hc⟩ := h.2.2.rd hn
  exact ⟨b0, off, e, by simpa using hb, fun j hj => cell_putLoop (hc j hj) hl⟩
theorem grown_none {w w' : World} (h : Below w.heap.size w w') : w.grownBy w' none := ⟨h.os, h.tape, h.output, h.size, fun k hk _ => h.block k hk⟩
theorem freshT_n (A : Option Addr) (bs : List UInt8) (n c B : Nat) (w : World) (hn : Hid (bs.length = n)) (h : Arg w B A c bs) (hl : n ≤ 1099511627776) :
    Calls Try.prog 57 #[.slice A n c] w fun e w' => ∃ P p, e = .returned (.slice P n p) ∧ Arg w' w'.heap.size P p bs ∧ Below w.heap.size w w' := by
  have := freshT_any A bs c B w h (by rw [hn.out]; exact hl)
  rw [hn.out] at this
  refine this.mono ?_
  rintro e w' ⟨v, rfl, hm⟩
  obtain ⟨P, p, rfl, g, o, x⟩ := made_shape hm
  exact ⟨P, p, by rw [hn.out], g, x⟩
set_option maxRecDepth 100000 in
set_option maxHeartbeats 4000000 in
theorem opts1_in (m : Nat) (hm : 1 ≤ m) (l lo hi Bs b1 o1 c1 n : Nat) (b : List UInt8) (hn : Hid (b.length = n)) (hl : n ≤ 1000000) (hc1 : n ≤ c1) (hBs : lo ≤ Bs ∧ Bs < hi) (hb1 : lo ≤ b1 ∧ b1 < hi) (J Jx : List OI → World → Prop) (W : World) (hhi : hi ≤ W.heap.size) (hJA0 : AbidesFrom W.heap.size J)
    (hY : ∀ pre x X, J pre X → GO b pre x X → YieldAt Fence.wide (m - 1) Try.prog l (encO x) X fun e Y =>
      (e = .returned (.bool true) ∧ J (pre ++ [x]) Y ∧ Holds lo hi X Y) ∨ (e = .returned (.bool false) ∧ Jx (pre ++ [x]) Y))
    (hb : W.cell? ⟨Bs, 0, none⟩ = some (.slice (some ⟨b1, o1, none⟩) n c1)) (hcell : ∀ j, j < n → W.cell? ⟨b1, o1 + j, none⟩ = some (.int .u8 (byt b j))) (hJ : J [] W) :
    CallsIn Fence.wide m Try.prog 59 #[.func (.yield l) #[] #[], .pointer (some ⟨Bs, 0, none⟩)] W fun e W' => (∃ v, e = .returned v) ∧
      ((∃ xs : List OI, xs.map (·.at_) = places b ∧ J xs W') ∨ (∃ pre : List OI, (∃ more, places b = pre.map (·.at_) ++ more) ∧ Jx pre W')) := by
  have hArg : ∀ V : World, Holds lo hi W V → Arg V V.heap.size (some ⟨b1, o1, none⟩) c1 b := fun V hV =>
    ⟨fun hp => ⟨b1, o1, rfl, cell_block ((hV.cell (p := ⟨b1, o1 + 0, none⟩) hb1.1 hb1.2).trans (hcell 0 (by have := hn.out; omega))), fun j hj => (hV.cell (p := ⟨b1, o1 + j, none⟩) hb1.1 hb1.2).trans (hcell j (by have := hn.out; omega))⟩, by have := hn.out; omega, fun e => by cases e⟩
  have HC := Lib.hid hcell
  have hJA := hJA0
  clear hcell hJA0
  refine callsIn_of_wp Try.func59 rfl trivial ?_ rfl
  simp only [Try.ntmps59, List.size_toArray, List.length_cons, List.length_nil, Nat.reduceAdd, Nat.reduceSub, Array.replicate_succ, Array.replicate_zero, List.push_toArray, List.append_toArray, List.nil_append, List.cons_append]
  refine wpIn_wide.2 (wp_scope_straight ((wpIn_wide (n := m)).1 ?_))
  gi_wp2
  refine wpIn_wide.2 (wp_label ?_)
  gi_wp2
  gi_loopw [3] (fun i wr => ∃ (k : Nat) (pre : List OI), k ≤ n ∧ i = .int .i64 (k : Int) ∧ Hid (places b = pre.map (·.at_) ++ rest b k) ∧ J pre wr ∧ Holds lo hi W wr)
    (fun i _ => n - (intOf i).toNat)
  case atStart => exact ⟨0, [], Nat.zero_le _, rfl, Lib.hid rfl, hJ, Holds.refl _ _ _⟩
  case round =>
    obtain ⟨k, pre, hk, rfl, HP, hJs, hH⟩ := hrel
    have hb' := (hH.cell (p := ⟨Bs, 0, none⟩) hBs.1 hBs.2).trans hb
    by_cases hlt : k < n
    · have kx0 := (hH.cell (p := ⟨b1, o1 + k, none⟩) hb1.1 hb1.2).trans (HC.out k hlt)
      have l0 := byt_lo b k; have l1 := byt_hi b k
      obtain ⟨X, hX⟩ : ∃ x, x = byt b k := ⟨_, rfl⟩
      rw [← hX] at kx0 l0 l1
      have HX := Lib.hid hX
      clear hX
      have hne : ¬ c1 = k := by omega
      have hsub : ((n - k : Nat) : Int) = (n : Int) - (k : Int) := by omega
      have HSB := Lib.hid hsub
      clear hsub
      by_cases x0 : X = 0
      · have e0 : (X == 0) = true := by simpa using x0
        have HS := Lib.hid (show optL b k = 1 by rw [optL, if_neg (by have := hn.out; omega), if_pos (by rw [← HX.out]; omega)])
        have HL := Lib.hid (show places b = pre.map (·.at_) ++ [k] by rw [HP.out, rest_last (by rw [HS.out]; omega) (by rw [← HX.out]; exact x0)])
        have NXT : Hid (∃ more, places b = pre.map (·.at_) ++ k :: more) := Lib.hid ⟨[], HL.out⟩
        obtain ⟨D, hDd⟩ : ∃ l, l = (b.drop k).take 1 := ⟨_, rfl⟩
        have HDl := Lib.hid (show D.length = 1 by rw [hDd, List.length_take, List.length_drop]; have := hn.out; omega)
        have hAD : Arg wr wr.heap.size (some ⟨b1, o1 + k, none⟩) (c1 - k) D := by
          rw [hDd]
          have hh := (hArg wr hH).cut k (k + 1) (by have := hn.out; omega)
          rw [cutA, if_neg (by have := hn.out; omega)] at hh
          have e : (b.take (k + 1)).drop k = (b.drop k).take 1 := by rw [List.drop_take]; congr 1; omega
          rw [e] at hh
          simpa [add_off] using hh
        have HDD := Lib.hid hDd
        clear hDd
        gi_wp2_with (refine ⟨trivial, ?_⟩; gi_at_call 57; refine (callsIn_wide.2 (freshT_n (some ⟨b1, o1 + k, none⟩) D 1 (c1 - k) wr.heap.size _ HDl hAD (by omega))).mono ?_; rintro e w2 ⟨P2, p2, rfl, hA2, x2⟩; have hY2 := hY pre ⟨k, P2, p2, 1⟩ w2 (hJA pre wr w2 none hJs (grown_none x2) (fun r e => by cases e)) ⟨NXT.out, HS.out.symm, HDD.out ▸ hA2⟩; obtain ⟨fn, tmps, assign, body, hy, hR⟩ := hY2; dsimp only [encO] at hy)
        refine hR.mono ?_
        rintro e W3 (⟨rfl, hJ3, hk3⟩ | ⟨rfl, hJx3⟩)
        · have hH3 := hH.trans ((Holds.of_below x2 (by have := hH.1; omega)).trans hk3)
          have hb3 := (hH3.cell (p := ⟨Bs, 0, none⟩) hBs.1 hBs.2).trans hb
          have kx3 := (hH3.cell (p := ⟨b1, o1 + k, none⟩) hb1.1 hb1.2).trans (HC.out k hlt)
          rw [← HX.out] at kx3
          clear hb' kx0 hy hR
          gi_wp2
          try rw [Exit.noGoto_normal]
          go_end0
          exact ⟨⟨_, rfl⟩, .inl ⟨_, by rw [List.map_append, HL.out]; rfl, hJ3⟩⟩
        · clear hb' kx0 hy hR
          gi_wp2
          try rw [Exit.noGoto_normal]
          go_end0
          exact ⟨⟨_, rfl⟩, .inr ⟨_, by obtain ⟨more, hm_⟩ := NXT.out; exact ⟨more, by rw [List.map_append, hm_, List.append_assoc]; rfl⟩, hJx3⟩⟩
      · by_cases x1 : X = 1
        · have e0 : (X == 0) = false := by simpa using x0
          have e1 : (X == 1) = true := by simpa using x1
          have HS := Lib.hid (show optL b k = 1 by rw [optL, if_neg (by have := hn.out; omega), if_pos (by rw [← HX.out]; omega)])
          have HL := Lib.hid (show places b = pre.map (·.at_) ++ k :: rest b (k + 1) by rw [HP.out, rest_more (by rw [HS.out]; omega) (by rw [← HX.out]; omega), HS.out])
          have NXT : Hid (∃ more, places b = pre.map (·.at_) ++ k :: more) := Lib.hid ⟨_, HL.out⟩
          obtain ⟨D, hDd⟩ : ∃ l, l = (b.drop k).take 1 := ⟨_, rfl⟩
          have HDl := Lib.hid (show D.length = 1 by rw [hDd, List.length_take, List.length_drop]; have := hn.out; omega)
          have hAD : Arg wr wr.heap.size (some ⟨b1, o1 + k, none⟩) (c1 - k) D := by
            rw [hDd]
            have hh := (hArg wr hH).cut k (k + 1) (by have := hn.out; omega)
            rw [cutA, if_neg (by have := hn.out; omega)] at hh
            have e : (b.take (k + 1)).drop k = (b.drop k).take 1 := by rw [List.drop_take]; congr 1; omega
            rw [e] at hh
            simpa [add_off] using hh
          have HDD := Lib.hid hDd
          clear hDd
          gi_wp2_with (refine ⟨trivial, ?_⟩; gi_at_call 57; refine (callsIn_wide.2 (freshT_n (some ⟨b1, o1 + k, none⟩) D 1 (c1 - k) wr.heap.size _ HDl hAD (by omega))).mono ?_; rintro e w2 ⟨P2, p2, rfl, hA2, x2⟩; have hY2 := hY pre ⟨k, P2, p2, 1⟩ w2 (hJA pre wr w2 none hJs (grown_none x2) (fun r e => by cases e)) ⟨NXT.out, HS.out.symm, HDD.out ▸ hA2⟩; obtain ⟨fn, tmps, assign, body, hy, hR⟩ := hY2; dsimp only [encO] at hy)
          refine hR.mono ?_
          rintro e W3 (⟨rfl, hJ3, hk3⟩ | ⟨rfl, hJx3⟩)
          · have hH3 := hH.trans ((Holds.of_below x2 (by have := hH.1; omega)).trans hk3)
            have hb3 := (hH3.cell (p := ⟨Bs, 0, none⟩) hBs.1 hBs.2).trans hb
            have kx3 := (hH3.cell (p := ⟨b1, o1 + k, none⟩) hb1.1 hb1.2).trans (HC.out k hlt)
            rw [← HX.out] at kx3
            clear hb' kx0 hy hR
            gi_wp2
            go_roundw
            case rel => exact ⟨k + 1, _, by omega, by simp, Lib.hid (by rw [List.map_append, HL.out, List.append_assoc]; rfl), hJ3, hH3⟩
            case measure => simp [intOf]; omega
          · clear hb' kx0 hy hR
            gi_wp2
            try rw [Exit.noGoto_normal]
            go_end0
            exact ⟨⟨_, rfl⟩, .inr ⟨_, by obtain ⟨more, hm_⟩ := NXT.out; exact ⟨more, by rw [List.map_append, hm_, List.append_assoc]; rfl⟩, hJx3⟩⟩
        · have e0 : (X == 0) = false := by simpa using x0
          have e1 : (X == 1) = false := by simpa using x1
          by_cases h2 : n - k < 2
          · have HZ := Lib.hid (show optL b k = 0 by rw [optL, if_neg (by have := hn.out; omega), if_neg (by rw [← HX.out]; omega), if_pos (.inl (by have := hn.out; omega))])
            have d2 : decide (((n - k : Nat) : Int) < 2) = true := by simp; omega
            gi_wp2
            try rw [Exit.noGoto_normal]
            go_end0
            exact ⟨⟨_, rfl⟩, .inl ⟨pre, by rw [HP.out, rest_none HZ.out, List.append_nil], hJs⟩⟩
          · have d2 : decide (((n - k : Nat) : Int) < 2) = false := by simp; omega
            have kx1 := (hH.cell (p := ⟨b1, o1 + (k + 1), none⟩) hb1.1 hb1.2).trans (HC.out (k + 1) (by omega))
            have m0 := byt_lo b (k + 1); have m1 := byt_hi b (k + 1)
            obtain ⟨Y, hYY⟩ : ∃ y, y = byt b (k + 1) := ⟨_, rfl⟩
            rw [← hYY] at kx1 m0 m1
            rw [← Nat.add_assoc] at kx1
            have HY := Lib.hid hYY
            clear hYY
            by_cases y2 : Y < 2
            · have dy : decide (Y < 2) = true := by simpa using y2
              have HZ := Lib.hid (show optL b k = 0 by rw [optL, if_neg (by have := hn.out; omega), if_neg (by rw [← HX.out]; omega), if_pos (by rw [← HY.out]; have := hn.out; omega)])
              gi_wp2
              try rw [Exit.noGoto_normal]
              go_end0
              exact ⟨⟨_, rfl⟩, .inl ⟨pre, by rw [HP.out, rest_none HZ.out, List.append_nil], hJs⟩⟩
            · have dy : decide (Y < 2) = false := by simpa using y2
              by_cases yn : Y > (n : Int) - k
              · have dn : decide (Y > ((n - k : Nat) : Int)) = true := by simp; omega
                have HZ := Lib.hid (show optL b k = 0 by rw [optL, if_neg (by have := hn.out; omega), if_neg (by rw [← HX.out]; omega), if_pos (by rw [← HY.out]; have := hn.out; omega)])
                gi_wp2
                try rw [Exit.noGoto_normal]
                go_end0
                exact ⟨⟨_, rfl⟩, .inl ⟨pre, by rw [HP.out, rest_none HZ.out, List.append_nil], hJs⟩⟩
              · have dn : decide (Y > ((n - k : Nat) : Int)) = false := by simp; omega
                obtain ⟨z, hz⟩ : ∃ z : Nat, Y = (z : Int) := ⟨Y.toNat, by omega⟩
                subst hz
                have HS := Lib.hid (show optL b k = z by rw [optL, if_neg (by have := hn.out; omega), if_neg (by rw [← HX.out]; omega), if_neg (by rw [← HY.out]; have := hn.out; omega), ← HY.out]; rfl)
                have HL := Lib.hid (show places b = pre.map (·.at_) ++ k :: rest b (k + z) by rw [HP.out, rest_more (by rw [HS.out]; omega) (by rw [← HX.out]; omega), HS.out])
                have NXT : Hid (∃ more, places b = pre.map (·.at_) ++ k :: more) := Lib.hid ⟨_, HL.out⟩
                obtain ⟨D, hDd⟩ : ∃ l, l = (b.drop k).take z := ⟨_, rfl⟩
                have HDl := Lib.hid (show D.length = z by rw [hDd, List.length_take, List.length_drop]; have := hn.out; omega)
                have hAD : Arg wr wr.heap.size (some ⟨b1, o1 + k, none⟩) (c1 - k) D := by
                  rw [hDd]
                  have hh := (hArg wr hH).cut k (k + z) (by have := hn.out; omega)
                  rw [cutA, if_neg (by have := hn.out; omega)] at hh
                  have e : (b.take (k + z)).drop k = (b.drop k).take z := by rw [List.drop_take]; congr 1; omega
                  rw [e] at hh
                  simpa [add_off] using hh
                have HDD := Lib.hid hDd
                clear hDd
                gi_wp2_with (refine ⟨trivial, ?_⟩; gi_at_call 57; refine (callsIn_wide.2 (freshT_n (some ⟨b1, o1 + k, none⟩) D z (c1 - k) wr.heap.size _ HDl hAD (by omega))).mono ?_; rintro e w2 ⟨P2, p2, rfl, hA2, x2⟩; have hY2 := hY pre ⟨k, P2, p2, z⟩ w2 (hJA pre wr w2 none hJs (grown_none x2) (fun r e => by cases e)) ⟨NXT.out, HS.out.symm, HDD.out ▸ hA2⟩; obtain ⟨fn, tmps, assign, body, hy, hR⟩ := hY2; dsimp only [encO] at hy)
                refine hR.mono ?_
                rintro e W3 (⟨rfl, hJ3, hk3⟩ | ⟨rfl, hJx3⟩)
                · have hH3 := hH.trans ((Holds.of_below x2 (by have := hH.1; omega)).trans hk3)
                  have hb3 := (hH3.cell (p := ⟨Bs, 0, none⟩) hBs.1 hBs.2).trans hb
                  have kx3 := (hH3.cell (p := ⟨b1, o1 + k, none⟩) hb1.1 hb1.2).trans (HC.out k hlt)
                  rw [← HX.out] at kx3
                  clear hb' kx0 hy hR
                  gi_wp2
                  go_roundw
                  case rel => exact ⟨k + z, _, by omega, by simp, Lib.hid (by rw [List.map_append, HL.out, List.append_assoc]; rfl), hJ3, hH3⟩
                  case measure => simp [intOf]; omega
                · clear hb' kx0 hy hR
                  gi_wp2
                  try rw [Exit.noGoto_normal]
                  go_end0
                  exact ⟨⟨_, rfl⟩, .inr ⟨_, by obtain ⟨more, hm_⟩ := NXT.out; exact ⟨more, by rw [List.map_append, hm_, List.append_assoc]; rfl⟩, hJx3⟩⟩
    · have HZ := Lib.hid (show optL b k = 0 by rw [optL, if_pos (by have := hn.out; omega)])
      have dk : decide (k < n) = false := by simpa using hlt
      gi_wp2
      try rw [Exit.noGoto_normal]
      go_end0
      exact ⟨⟨_, rfl⟩, .inl ⟨pre, by rw [HP.out, rest_none HZ.out, List.append_nil], hJs⟩⟩
set_option maxRecDepth 100000 in
set_option maxHeartbeats 4000000 in
theorem opts0_in (m : Nat) (l Bs c1 : Nat) (A1 : Option Addr) (b : List UInt8) (hn : b.length = 0) (J Jx : List OI → World → Prop) (W : World)
    (hb : W.cell? ⟨Bs, 0, none⟩ = some (.slice A1 0 c1)) (hJ : J [] W) :
    CallsIn Fence.wide m Try.prog 59 #[.func (.yield l) #[] #[], .pointer (some ⟨Bs, 0, none⟩)] W fun e W' => (∃ v, e = .returned v) ∧
      ((∃ xs : List OI, xs.map (·.at_) = places b ∧ J xs W') ∨ (∃ pre : List OI, (∃ more, places b = pre.map (·.at_) ++ more) ∧ Jx pre W')) := by
  have HZ := Lib.hid (show places b = [] from rest_none (a := 0) (by unfold optL; rw [if_pos (by omega)]))
  clear hn
  refine callsIn_of_wp Try.func59 rfl trivial ?_ rfl
  simp only [Try.ntmps59, List.size_toArray, List.length_cons, List.length_nil, Nat.reduceAdd, Nat.reduceSub, Array.replicate_succ, Array.replicate_zero, List.push_toArray, List.append_toArray, List.nil_append, List.cons_append]
  refine wpIn_wide.2 (wp_scope_straight ((wpIn_wide (n := m)).1 ?_))
  gi_wp2
  refine wpIn_wide.2 (wp_label ?_)
  gi_wp2
  gi_loopw [3] (fun i wr => i = .int .i64 0 ∧ wr = W) (fun _ _ => 0)
  case atStart => exact ⟨rfl, rfl⟩
  case round =>
    obtain ⟨rfl, rfl⟩ := hrel
    gi_wp2
    try rw [Exit.noGoto_normal]
    go_end0
    exact ⟨⟨_, rfl⟩, .inl ⟨[], by rw [HZ.out]; rfl, hJ⟩⟩
/-- Options: new memory; an iterator that tells the options in order, each in memory of its own. -/
theorem opts_any (A : Option Addr) (bs : List UInt8) (c B : Nat) (w : World) (h : Arg w B A c bs) (hl : bs.length ≤ 1000000) :
    Calls Try.prog 32 #[.slice A bs.length c] w fun e w' => ∃ Bs, e = .returned (.func (.func 59) #[] #[.pointer (some ⟨Bs, 0, none⟩)]) ∧ Below w.heap.size w w' ∧
      (∀ m, 1 ≤ m → SeqTold m Try.prog 59 #[.pointer (some ⟨Bs, 0, none⟩)] encO (GO bs) (Holds w.heap.size w'.heap.size)
        (fun xs => xs.map (·.at_) = places bs) (fun pre => ∃ more, places bs = pre.map (·.at_) ++ more) w') := by
  obtain ⟨n, hn'⟩ : ∃ n, n = bs.length := ⟨_, rfl⟩
  have hn := Lib.hid hn'.symm
  have hfr := freshT_any A bs c B w h (by omega)
  rw [← hn'] at hfr hl ⊢
  clear hn'
  go_enter Try.func32, Try.ntmps32
  go_wp2_with (go_at_call 57; refine hfr.mono ?_; rintro e w1 ⟨v, rfl, hm⟩; obtain ⟨A2, c2, rfl, hle, _, ho, hb1⟩ := hm; rw [hn.out])
  go_ret
  have hbx := Boxed.new w1 22 (.slice A2 n c2)
  have hb2 : Below w.heap.size w (w1.alloc (.cells #[.slice A2 n c2] 22)) := hb1.alloc hb1.size _
  have hs : (w1.alloc (.cells #[.slice A2 n c2] 22)).heap.size = w1.heap.size + 1 := by simp
  have hA2 := Made.arg ho
  refine ⟨w1.heap.size, rfl, hb2, fun m hm l J Jx W hW hJa _ hY hJ => ?_⟩
  have hbW := (hW.cell (p := ⟨w1.heap.size, 0, none⟩) (by rw [hs]; simp)).trans hbx.cell
  by_cases h0 : n = 0
  · subst h0
    exact opts0_in m l w1.heap.size c2 A2 bs hn.out J Jx W hbW hJ
  · obtain ⟨b1, o1, e1, hlt1, hc1⟩ := hA2.rd (by rw [hn.out]; omega)
    subst e1
    have hge : w.heap.size ≤ b1 := by
      rcases ho.2 with ⟨e, _⟩ | ⟨g, cap, cur, e, hg, _⟩
      · cases e
      · cases e; exact hg
    refine opts1_in m hm l w.heap.size _ w1.heap.size b1 o1 c2 n bs hn hl (by rw [← hn.out]; exact hle) ⟨hb1.size, by rw [hs]; omega⟩ ⟨hge, by rw [hs]; omega⟩ J Jx W hW.size hJa hY hbW ?_ hJ
    intro j hj
    exact (hW.cell (p := ⟨b1, o1 + j, none⟩) (by rw [hs]; exact Nat.lt_succ_of_lt hlt1)).trans ((Below.cell ((Below.refl w1.heap.size w1).alloc (Nat.le_refl _) _) hlt1).trans (hc1 j (by rw [hn.out]; exact hj)))
end Go.Proofs.Ytggcjjcgiphjeaa

/-
  Contract of tcp.MSS. Conditions are each theorem's own.
-/
namespace Go.Proofs.Ytggcjjcgiphjeaa
open Go.RowKit Go.Shelf
attribute [local go_sem] Oper.semAt_some
theorem byt_take (b : List UInt8) {n j : Nat} (h : j < n) : byt (b.take n) j = byt b j := by simp [byt, h]
theorem loadv_int {w : World} {g : Nat} {v : Value} (h : Boxed w g 3 v) : (loadVar 3 ⟨g, 0, none⟩).run Try.prog w = .ok v w := by
  have hagg : (isAgg 3).run Try.prog w = .ok false w := by
    unfold isAgg
    rw [Sem.run_bind, run_underlying Try.underlying3 w]; rfl
  have hc := h.cell
  simp [loadVar, Sem.run_bind, hagg, hc]
theorem loadv_bool {w : World} {g : Nat} {v : Value} (h : Boxed w g 4 v) : (loadVar 4 ⟨g, 0, none⟩).run Try.prog w = .ok v w := by
  have hagg : (isAgg 4).run Try.prog w = .ok false w := by
    unfold isAgg
    rw [Sem.run_bind, run_underlying Try.underlying4 w]; rfl
  have hc := h.cell
  simp [loadVar, Sem.run_bind, hagg, hc]
theorem cells3 {fn : Func} {p q r : Tmp} {tmps : Array Value} {w : World} {g : Nat} {x y z : Value} (h : fn.results = #[.cell p 3, .cell q 3, .cell r 4])
    (hp : tmps.getD p undef = .pointer (some ⟨g, 0, none⟩)) (hq : tmps.getD q undef = .pointer (some ⟨g + 1, 0, none⟩)) (hr : tmps.getD r undef = .pointer (some ⟨g + 1 + 1, 0, none⟩))
    (h0 : Boxed w g 3 x) (h1 : Boxed w (g + 1) 3 y) (h2 : Boxed w (g + 1 + 1) 4 z) :
    (results fn tmps).run Try.prog w = .ok (.tuple #[x, y, z]) w := by
  have hp' : tmps[p]?.getD undef = .pointer (some ⟨g, 0, none⟩) := by simpa using hp
  have hq' : tmps[q]?.getD undef = .pointer (some ⟨g + 1, 0, none⟩) := by simpa using hq
  have hr' : tmps[r]?.getD undef = .pointer (some ⟨g + 1 + 1, 0, none⟩) := by simpa using hr
  simp [results, h, hp', hq', hr', asAddr, loadv_int h0, loadv_int h1, loadv_bool h2]
/-- Three results in blocks of their own, in a row. -/
structure Three (W : World) (g : Nat) (x y : Int) (z : Bool) : Prop where
  one : Boxed W g 3 (.int .i64 x)
  two : Boxed W (g + 1) 3 (.int .i64 y)
  three : Boxed W (g + 1 + 1) 4 (.bool z)
theorem Three.below {W V : World} {g n : Nat} {x y : Int} {z : Bool} (h : Three W g x y z) (hb : Below n W V) (hn : g + 1 + 1 < n) : Three V g x y z :=
  ⟨Boxed.below h.one hb (by omega), Boxed.below h.two hb (by omega), Boxed.below h.three hb hn⟩
theorem Three.kept {W V : World} {g n : Nat} {x y : Int} {z : Bool} {r : Option Nat} (h : Three W g x y z) (hg : W.grownBy V r) (hr : ∀ k, r = some k → n ≤ k ∧ ∃ o : Obj, W.heap[k]? = some o ∧ o.isCells = false) : Three V g x y z :=
  ⟨box_keep h.one hg hr, box_keep h.two hg hr, box_keep h.three hg hr⟩
theorem Three.set {W : World} {g : Nat} {x y : Int} {z : Bool} (h : Three W g x y z) (x' y' : Int) (z' : Bool) :
    Three (((W.setCell ⟨g, 0, none⟩ (.int .i64 x')).setCell ⟨g + 1, 0, none⟩ (.int .i64 y')).setCell ⟨g + 1 + 1, 0, none⟩ (.bool z')) g x' y' z' :=
  ⟨(((Boxed.set _ h.one).other (by omega) _).other (by omega) _), ((Boxed.set _ (h.two.other (by omega) _)).other (by omega) _), Boxed.set _ ((h.three.other (by omega) _).other (by omega) _)⟩
theorem find_split {α : Type} {p : α → Bool} {l pre more : List α} (h : l = pre ++ more) (hn : ∀ x ∈ pre, p x = false) : l.find? p = more.find? p := by
  subst h
  rw [List.find?_append, List.find?_eq_none.2 (fun x hx => by simp [hn x hx]), Option.none_or]
section
variable (q : PT) (A A' : Option Addr) (c c' : Nat) (w : World)
set_option maxRecDepth 100000 in
set_option maxHeartbeats 4000000 in
theorem cTmss (B : Nat) (hO : Arg w B A c q.opt) (hB0 : B ≤ w.heap.size) (ho0 : q.opt.length ≤ 1000000) :
    Calls Try.prog 34 #[tsv q A c A' c'] w fun e w' => e = .returned (.tuple #[.int .i64 (mssN q.opt), .int .i64 (mssA q.opt), .bool (mssK q.opt)]) ∧ Below w.heap.size w w' := by
  obtain ⟨W, hW⟩ : ∃ W, W = (((w.alloc (.cells (tsa q A c A' c') 39)).alloc (.cells #[.int .i64 0] 3)).alloc (.cells #[.int .i64 0] 3)).alloc (.cells #[.bool false] 4) := ⟨_, rfl⟩
  have hB : Below w.heap.size w W := by rw [hW]; exact ((((Below.refl w.heap.size w).alloc (Nat.le_refl _) _).alloc (by simp) _).alloc (by simp; omega) _).alloc (by simp; omega) _
  have hs : W.heap.size = w.heap.size + 4 := by rw [hW]; simp
  have k8 : W.cell? ⟨w.heap.size, 8, none⟩ = some (.slice A q.opt.length c) := by
    have h0 := (Atts.new (q := q) (A := A) (c := c) (A' := A') (c' := c') w).opt
    have hb : Below (w.heap.size + 1) (w.alloc (.cells (tsa q A c A' c') 39)) W := by rw [hW]; exact (((Below.refl _ _).alloc (by simp) _).alloc (by simp) _).alloc (by simp) _
    exact (hb.cell (p := ⟨w.heap.size, 8, none⟩) (Nat.lt_succ_self _)).trans h0
  have h3 : Three W (w.heap.size + 1) 0 0 false := by
    have e : ∀ (V : World) (o : Obj), (V.alloc o).heap[V.heap.size]? = some o := World.alloc_heap_new
    have s1 : (w.alloc (.cells (tsa q A c A' c') 39)).heap.size = w.heap.size + 1 := by simp
    have s2 : ((w.alloc (.cells (tsa q A c A' c') 39)).alloc (.cells #[.int .i64 0] 3)).heap.size = w.heap.size + 1 + 1 := by simp
    have s3 : (((w.alloc (.cells (tsa q A c A' c') 39)).alloc (.cells #[.int .i64 0] 3)).alloc (.cells #[.int .i64 0] 3)).heap.size = w.heap.size + 1 + 1 + 1 := by simp
    subst hW
    refine ⟨?_, ?_, ?_⟩
    · have := Boxed.new (w.alloc (.cells (tsa q A c A' c') 39)) 3 (.int .i64 0)
      rw [s1] at this
      exact (this.alloc _).alloc _
    · have := Boxed.new ((w.alloc (.cells (tsa q A c A' c') 39)).alloc (.cells #[.int .i64 0] 3)) 3 (.int .i64 0)
      rw [s2] at this
      exact this.alloc _
    · have := Boxed.new (((w.alloc (.cells (tsa q A c A' c') 39)).alloc (.cells #[.int .i64 0] 3)).alloc (.cells #[.int .i64 0] 3)) 4 (.bool false)
      rw [s3] at this
      exact this
  have hOW := hO.below (hB.mono hB0)
  have HS := Lib.hid hs
  clear hs
  rw [tsv_eq]
  refine (callsIn_wide (n := 4)).1 ?_
  refine callsIn_of_wp_marks Try.func34 rfl trivial ?_ rfl
  simp only [Try.ntmps34, List.size_toArray, List.length_cons, List.length_nil, Nat.reduceAdd, Nat.reduceSub, Array.replicate_succ, Array.replicate_zero, List.push_toArray, List.append_toArray, List.nil_append, List.cons_append]
  subst hW
  gi_wp2_with (refine ⟨trivial, ?_⟩; gi_at_call 32; refine (callsIn_wide.2 (opts_any A q.opt c B _ hOW ho0)).mono ?_; rintro e w1 ⟨Bs, rfl, x1, hseq⟩)
  clear k8
  generalize (((w.alloc (.cells (tsa q A c A' c') 39)).alloc (.cells #[.int .i64 0] 3)).alloc (.cells #[.int .i64 0] 3)).alloc (.cells #[.bool false] 4) = W at *
  have hz1 := x1.size
  have h31 := h3.below x1 (by have := HS.out; omega)
  have hB1 : Below w.heap.size w w1 := hB.trans (x1.mono (by have := HS.out; omega))
  have hz2 : w.heap.size + 4 ≤ w1.heap.size := by have := HS.out; omega
  clear h3 hB HS
  refine range_told (by omega) (gf := 59) (lb := #[.pointer (some ⟨Bs, 0, none⟩)]) rfl (enters_of Try.func59 (by kernel_rfl) rfl)
    (hseq (4 - 1) (by omega)) Holds.trans (fun V l r r' hl hr => Holds.b (Nat.le_refl _) V l _ _ hl hr rfl rfl) (Below.refl _ _) (fun _ => rfl)
    (fun pre x V l r r' h _ hl => GO.turn h hl)
    (fun pre X => (∀ x ∈ pre, mssB q.opt x.at_ = false) ∧ Three X (w.heap.size + 1) 0 0 false ∧ Below w.heap.size w X)
    (fun cd _ X => cd = .ret ∧ ∃ a, mssT q.opt = some a ∧ Three X (w.heap.size + 1) (n2 q.opt (a + 2)) (a : Int) true ∧ Below w.heap.size w X)
    (fun pre X Y r hs hg hr => ⟨hs.1, hs.2.1.kept hg hr, below_keep hs.2.2 hg hr (by omega) (Nat.le_refl _)⟩)
    (fun cd pre X Y r hs hg hr => by obtain ⟨h1, a, h2, h3, h4⟩ := hs; exact ⟨h1, a, h2, h3.kept hg hr, below_keep h4 hg hr (by omega) (Nat.le_refl _)⟩)
    ⟨by simp, h31, hB1⟩
    (fun x => { tmps := #[.agg (tsa q A c A' c'), .pointer (some ⟨w.heap.size, 0, none⟩), .pointer (some ⟨w.heap.size + 1, 0, none⟩), .pointer (some ⟨w.heap.size + 1 + 1, 0, none⟩), .pointer (some ⟨w.heap.size + 1 + 1 + 1, 0, none⟩), .int .i64 (x.at_ : Int), .slice x.A x.n x.c, undef, undef, .pointer (some ⟨w.heap.size, 8, none⟩), .slice A q.opt.length c, .func (.func 59) #[] #[.pointer (some ⟨Bs, 0, none⟩)], .int .i64 (x.at_ : Int), .slice x.A x.n x.c, undef, undef, undef, undef, undef, undef, undef, undef, undef, undef, undef, undef, undef, undef, undef, undef], defers := [] }) ?assign ?body ?done ?stop
  case assign =>
    intro l x X K hK
    dsimp only [encO]
    gi_wp2
    exact hK
  case body =>
    rintro l pre ⟨k, XA, xc, n⟩ X ⟨hpre, h3X, hBX⟩ ⟨hpl, hn, hAX⟩
    dsimp only at hpl hn hAX ⊢
    have hpl' := hpl
    obtain ⟨more, hmore⟩ := hpl
    have hn0 : 0 < optL q.opt k := places_mem (by rw [hmore]; simp)
    have hle := optL_le hn0
    rw [← hn] at hn0 hle
    obtain ⟨D, hD⟩ : ∃ D, D = (q.opt.drop k).take n := ⟨_, rfl⟩
    rw [← hD] at hAX
    have hDl : D.length = n := by rw [hD, List.length_take, List.length_drop]; omega
    have hDb : ∀ j, j < n → byt D j = byt q.opt (k + j) := fun j hj => by rw [hD, byt_take _ hj, byt_drop]
    have hcapX := hAX.cap
    obtain ⟨b0, off, e, hb0, hc0⟩ := hAX.rd (by omega)
    obtain rfl := e
    have kx0 := hc0 0 (by omega)
    rw [hDb 0 hn0, Nat.add_zero, Nat.add_zero] at kx0
    have HN := Lib.hid hn
    have HM := Lib.hid hmore
    have HP := Lib.hid hpre
    have no : mssB q.opt k = false → ∀ x ∈ pre ++ [⟨k, some ⟨b0, off, none⟩, xc, n⟩], mssB q.opt x.at_ = false := fun hk x hx => by
      rcases List.mem_append.1 hx with hx | hx
      · exact HP.out x hx
      · rw [List.mem_singleton.1 hx]; exact hk
    have HNO := Lib.hid no
    have Hle := Lib.hid hle
    clear hmore hn hpre hpl' no hle
    obtain ⟨Z, hZ⟩ : ∃ z, z = byt q.opt k := ⟨_, rfl⟩
    rw [← hZ] at kx0
    have HZ := Lib.hid hZ
    clear hZ
    by_cases z2 : Z = 2
    · subst z2
      by_cases n4 : n = 4
      · subst n4
        have hg := get_any (some ⟨b0, off, none⟩) D xc X.heap.size 2 2 X hAX.rd (by omega) hAX.cap
        rw [hDl, show getV D 2 2 = n2 q.opt (k + 2) from (get_two (b := D) (i := 2) (by omega)).trans (by unfold n2; rw [hDb 2 (by omega), hDb (2 + 1) (by omega)])] at hg
        have HG := Lib.hid hg
        obtain ⟨v, hv⟩ : ∃ v, v = n2 q.opt (k + 2) := ⟨_, rfl⟩
        have HV := Lib.hid hv
        rw [← hv] at hg
        clear hc0 hDb hD hDl HG hv
        have c1 := Boxed.cell h3X.one; have f1 := Boxed.frozen h3X.one
        have t2 := Boxed.other h3X.two (B' := w.heap.size + 1) (by omega) (.int .i64 v)
        have t3 := Boxed.other (Boxed.other h3X.three (B' := w.heap.size + 1) (by omega) (.int .i64 v)) (B' := w.heap.size + 1 + 1) (by omega) (.int .i64 (k : Int))
        have c2 := Boxed.cell t2; have f2 := Boxed.frozen t2
        have c3 := Boxed.cell t3; have f3 := Boxed.frozen t3
        gi_wp2_with (refine ⟨trivial, ?_⟩; gi_at_call 60; refine (callsIn_wide.2 hg).mono ?_; rintro e w' ⟨rfl, rfl⟩)
        have hT : mssT q.opt = some k := by
          unfold mssT
          rw [find_split HM.out (fun x hx => by obtain ⟨y, hy, rfl⟩ := List.mem_map.1 hx; exact HP.out y hy), List.find?_cons_of_pos (by unfold mssB; rw [← HZ.out, ← HN.out]; rfl)]
        exact ⟨(((KeepsOthers.setCell _ _ _).from _).trans ((KeepsOthers.setCell _ _ _).from _)).trans ((KeepsOthers.setCell _ _ _).from _), rfl, k, hT, by rw [← HV.out]; exact Three.set h3X _ _ _,
          ((hBX.setCell (p := ⟨w.heap.size + 1, 0, none⟩) (by simp) _).setCell (p := ⟨w.heap.size + 1 + 1, 0, none⟩) (by simp; omega) _).setCell (p := ⟨w.heap.size + 1 + 1 + 1, 0, none⟩) (by simp; omega) _⟩
      · have e4 : ((n : Int) == 4) = false := by simp; omega
        have hno := HNO.out (by unfold mssB; rw [← HN.out, decide_eq_false n4, Bool.and_false])
        have HNN := Lib.hid hno
        clear hno hc0 hDb hD hDl
        gi_wp2
        exact ⟨KeepsFrom.refl _ _, Holds.refl _ _ _, HNN.out, h3X, hBX⟩
    · have e2 : (Z == 2) = false := by simpa using z2
      have hno := HNO.out (by unfold mssB; rw [← HZ.out, decide_eq_false z2, Bool.false_and])
      have HNN := Lib.hid hno
      clear hno hc0 hDb hD hDl
      gi_wp2
      exact ⟨KeepsFrom.refl _ _, Holds.refl _ _ _, HNN.out, h3X, hBX⟩
  case done =>
    rintro D xs X hD hS ⟨hno, h3X, hBX⟩ hK
    have hT : mssT q.opt = none := by
      unfold mssT
      rw [← hS]
      exact List.find?_eq_none.2 (fun x hx => by obtain ⟨y, hy, rfl⟩ := List.mem_map.1 hx; rw [hno y hy]; simp)
    have HT := Lib.hid hT
    clear hT hno hS hseq hO hOW
    have hm1 : Marks w1.heap.size X.heap.size [{ target := .collected D, args := #[] }] X := (Marks.push (hi := D) (ds := []) trivial (Nat.le_refl _) hD hK).more (heap_lt hK)
    have c1 := Boxed.cell h3X.one; have f1 := Boxed.frozen h3X.one
    have t2 := Boxed.other h3X.two (B' := w.heap.size + 1) (by omega) (.int .i64 0)
    have t3 := Boxed.other (Boxed.other h3X.three (B' := w.heap.size + 1) (by omega) (.int .i64 0)) (B' := w.heap.size + 1 + 1) (by omega) (.int .i64 0)
    have c2 := Boxed.cell t2; have f2 := Boxed.frozen t2
    have c3 := Boxed.cell t3; have f3 := Boxed.frozen t3
    gi_wp2
    refine leaves_marks w1.heap.size (fun Y => Three Y (w.heap.size + 1) 0 0 false ∧ Below w.heap.size w Y) (fun Y D hY h1 h2 => ⟨hY.1.kept (n := w1.heap.size) (grownBy_putObj' Y D _) (fun k e => by cases e; exact ⟨h1, _, h2, rfl⟩), hY.2.trans (belowK_b (w := w) (Nat.le_refl _) Y D _ _ (by omega) h2 rfl rfl)⟩)
      (fun Y hY => ⟨_, cells3 rfl rfl rfl rfl hY.1.one hY.1.two hY.1.three, ?_, hY.2⟩) _ _ _ (hm1.keep (fun k h1 _ => (Below.heap_setCell _ _ _ _ (by simp; omega)).trans ((Below.heap_setCell _ _ _ _ (by simp; omega)).trans (Below.heap_setCell _ _ _ _ (by simp; omega)))))
      ⟨Three.set h3X _ _ _, ((hBX.setCell (p := ⟨w.heap.size + 1, 0, none⟩) (by simp) _).setCell (p := ⟨w.heap.size + 1 + 1, 0, none⟩) (by simp; omega) _).setCell (p := ⟨w.heap.size + 1 + 1 + 1, 0, none⟩) (by simp; omega) _⟩
    unfold mssN mssA mssK
    rw [HT.out]
    rfl
  case stop =>
    rintro D cd pre X hD _ ⟨rfl, a, ha, h3X, hBX⟩ hK
    gi_wp2
    have hm1 : Marks w1.heap.size X.heap.size [{ target := .collected D, args := #[] }] X := (Marks.push (hi := D) (ds := []) trivial (Nat.le_refl _) hD hK).more (heap_lt hK)
    refine leaves_marks w1.heap.size (fun Y => Three Y (w.heap.size + 1) (n2 q.opt (a + 2)) (a : Int) true ∧ Below w.heap.size w Y) (fun Y D hY h1 h2 => ⟨hY.1.kept (n := w1.heap.size) (grownBy_putObj' Y D _) (fun k e => by cases e; exact ⟨h1, _, h2, rfl⟩), hY.2.trans (belowK_b (w := w) (Nat.le_refl _) Y D _ _ (by omega) h2 rfl rfl)⟩)
      (fun Y hY => ⟨_, cells3 rfl rfl rfl rfl hY.1.one hY.1.two hY.1.three, ?_, hY.2⟩) _ _ X hm1 ⟨h3X, hBX⟩
    unfold mssN mssA mssK
    rw [ha]
    rfl
end
end Go.Proofs.Ytggcjjcgiphjeaa

/-
  Layer 8's awake, and what Build answers, in one shape. Conditions are each theorem's own.
-/
namespace Go.Proofs.Ytggcjjcgiphjeaa
open Go.RowKit

def resT (src dst : Int) (q : PT) : List UInt8 := if chkT q = 0 then bldT src dst q else []
theorem resT_shape {src dst : Int} {q : PT} {w w' : World} {v : Value} (h : (chkT q ≠ 0 → v = .slice none 0 0 ∧ Below w.heap.size w w') ∧ (chkT q = 0 → Made w w' v (bldT src dst q))) :
    ∃ P k, v = .slice P (resT src dst q).length k ∧ Rd w' w'.heap.size P (resT src dst q) ∧ Below w.heap.size w w' := by
  by_cases hc : chkT q = 0
  · obtain ⟨A, c, rfl, hl, hr, ho, hb⟩ := h.2 hc
    exact ⟨A, c, by rw [resT, if_pos hc], by rw [resT, if_pos hc]; exact hr, hb⟩
  · obtain ⟨rfl, hb⟩ := h.1 hc
    exact ⟨none, 0, by rw [resT, if_neg hc]; rfl, by rw [resT, if_neg hc]; exact Rd.nil, hb⟩
def qaT : PT := ⟨1, 2, 0, 0, 0, 0, 0, 0, [1, 2, 4, 5, 180, 1, 1, 1], []⟩
theorem argA {B g : Nat} {w : World} (hg : w.heap[g]? = some (.cells #[.int .u8 1, .int .u8 2, .int .u8 4, .int .u8 5, .int .u8 180, .int .u8 1, .int .u8 1, .int .u8 1] 5 (0, 0))) (hB : g < B) : Arg w B (some ⟨g, 0, none⟩) 8 qaT.opt :=
  ⟨Rd.of_block hg hB 0 (fun j hj => by
    have hj : j < 8 := hj
    rcases (by omega : j = 0 ∨ j = 1 ∨ j = 2 ∨ j = 3 ∨ j = 4 ∨ j = 5 ∨ j = 6 ∨ j = 7) with rfl | rfl | rfl | rfl | rfl | rfl | rfl | rfl <;> rfl), by decide, fun e => by cases e⟩
theorem mss_awake (g : Nat) (w : World) (ha : Arg w w.heap.size (some ⟨g, 0, none⟩) 8 qaT.opt) :
    Calls Try.prog 34 #[tsv qaT (some ⟨g, 0, none⟩) 8 none 0] w fun e w' => e = .returned (.tuple #[.int .i64 1460, .int .i64 1, .bool true]) ∧ Below w.heap.size w w' :=
  cTmss qaT (some ⟨g, 0, none⟩) none 8 0 w w.heap.size ha (Nat.le_refl _) (by decide)
theorem buildT_awake (g : Nat) (w : World) (ha : Arg w w.heap.size (some ⟨g, 0, none⟩) 8 qaT.opt) :
    Calls Try.prog 23 #[.int .i64 3, .int .i64 4, tsv qaT (some ⟨g, 0, none⟩) 8 none 0] w fun e w' => ∃ A c, e = .returned (.tuple #[.slice A 28 c, .int .i64 0]) ∧ Arg w' w'.heap.size A c (bldT 3 4 qaT) ∧ Below w.heap.size w w' := by
  have hc : chkT qaT = 0 := by decide
  have hlen : (bldT 3 4 qaT).length = 28 := bldT_len 3 4 qaT
  refine (cTbuild qaT (some ⟨g, 0, none⟩) 8 none 0 3 4 w w.heap.size ha (Arg.nil w _) (Nat.le_refl _) (by decide) (by decide)).mono ?_
  rintro e w' ⟨v, rfl, _, hm⟩
  obtain ⟨A, c, rfl, ha, ho, hb⟩ := made_shape (hm hc)
  exact ⟨A, c, by rw [hc, hlen], ha, hb⟩
theorem parseT_awake (A : Option Addr) (c B : Nat) (w : World) (h : Arg w B A c (bldT 3 4 qaT)) (hB : B ≤ w.heap.size) :
    Calls Try.prog 29 #[.int .i64 3, .int .i64 4, .slice A 28 c] w fun e w' => ∃ P p P' p', e = .returned (.tuple #[tsv qaT P p P' p', .int .i64 0]) ∧ Rd w' w'.heap.size P qaT.opt ∧ Rd w' w'.heap.size P' qaT.dat ∧ Below w.heap.size w w' := by
  have hlen : (bldT 3 4 qaT).length = 28 := bldT_len 3 4 qaT
  have hk := backT (src := 3) (dst := 4) (q := qaT) (by decide)
  have := cTparse (bldT 3 4 qaT) A c 3 4 w B h hB (by rw [hlen]; decide)
  rw [hk.1, hk.2, hlen] at this
  refine this.mono ?_
  rintro e w' ⟨P, p, P', p', rfl, hm, hm'⟩
  refine ⟨P, p, P', p', rfl, ?_, ?_, hm.below⟩
  · obtain ⟨_, _, e1, _, e3, _, _⟩ := id hm; cases e1; exact e3
  · obtain ⟨_, _, e1, _, e3, _, _⟩ := id hm'; cases e1; exact e3
set_option maxRecDepth 100000 in
set_option maxHeartbeats 1000000 in
theorem awakeT_any (w : World) : Calls Try.prog 22 #[] w fun e w' => e = .returned (.bool true) ∧ Below w.heap.size w w' := by
  have KS := Lib.hid (sameT_iff.2 (rfl : qaT = qaT))
  obtain ⟨W1, hW1⟩ : ∃ W1, W1 = w.alloc (.cells #[.int .u8 1, .int .u8 2, .int .u8 4, .int .u8 5, .int .u8 180, .int .u8 1, .int .u8 1, .int .u8 1] 5) := ⟨_, rfl⟩
  have g0 : W1.heap[w.heap.size]? = some (.cells #[.int .u8 1, .int .u8 2, .int .u8 4, .int .u8 5, .int .u8 180, .int .u8 1, .int .u8 1, .int .u8 1] 5 (0, 0)) := by rw [hW1]; exact World.alloc_heap_new _ _
  have hB1 : Below w.heap.size w W1 := by rw [hW1]; exact (Below.refl _ w).alloc (Nat.le_refl _) _
  have hz1 : W1.heap.size = w.heap.size + 1 := by rw [hW1]; simp
  have hAt := Atts.new (q := qaT) (A := some ⟨w.heap.size, 0, none⟩) (c := 8) (A' := none) (c' := 0) W1
  have x2 : Below W1.heap.size W1 (W1.alloc (.cells (tsa qaT (some ⟨w.heap.size, 0, none⟩) 8 none 0) 39)) := (Below.refl _ W1).alloc (Nat.le_refl _) _
  have hz2 : W1.heap.size < (W1.alloc (.cells (tsa qaT (some ⟨w.heap.size, 0, none⟩) 8 none 0) 39)).heap.size := by simp
  go_enter Try.func22, Try.ntmps22
  go_upto_region 2 with (first
    | ((with_reducible show wpList _ _ _ (Oper.mk _ (Op.store _ _ _) _ _ _ _ :: _) _ _); refine ts_store_new (cs := tsa qaT (some ⟨w.heap.size, 0, none⟩) 8 none 0) rfl rfl rfl rfl (ts_one _ _ _ _ _) ?_))
  rw [show #[.int .i64 1, .int .i64 2, .int .i64 0, .int .i64 0, .int .i64 0, .int .i64 0, .int .i64 0, .int .i64 0, .slice (some ⟨w.heap.size, 0, none⟩) 8 8, .slice none 0 0] = tsa qaT (some ⟨w.heap.size, 0, none⟩) 8 none 0 from rfl, ← hW1]
  have hzz : W1.heap.size = w.heap.size + 1 := hz1
  rw [hz1] at hAt hz2
  have g1 := (Below.block x2 w.heap.size (by omega)).trans g0
  have hBX := hB1.trans (x2.mono hB1.size)
  clear hW1 g0 hB1 x2 hz1 hzz
  generalize W1.alloc (.cells (tsa qaT (some ⟨w.heap.size, 0, none⟩) 8 none 0) 39) = W at *
  have ha := argA g1 (by omega : w.heap.size < W.heap.size)
  go_upto_region 3 with (first
    | ((with_reducible show wpList _ _ _ (Oper.mk _ (Op.load 39 _) _ _ _ _ :: _) _ _); refine wpList_valw (by rfl) (run_load_ts rfl rfl hAt rfl) ?_)
    | (go_at_call 34; refine (mss_awake _ _ ha).mono ?_; rintro e w3 ⟨rfl, x3⟩))
  have hAt3 := hAt.below x3 hz2
  have ha3 := (ha.below x3).more x3.size
  have q3 := hBX.trans (x3.mono hBX.size)
  have z3 := x3.size
  go_upto_region 4 with (first
    | ((with_reducible show wpList _ _ _ (Oper.mk _ (Op.load 39 _) _ _ _ _ :: _) _ _); refine wpList_valw (by rfl) (run_load_ts rfl rfl hAt3 rfl) ?_)
    | (go_at_call 23; refine (buildT_awake _ _ ha3).mono ?_; rintro e w4 ⟨P, p, rfl, hb, x4⟩))
  have hAt4 := hAt3.below x4 (by omega)
  have ha4 := (ha3.below x4).more x4.size
  have q4 := q3.trans (x4.mono q3.size)
  have z4 := x4.size
  clear hAt hAt3 ha ha3 q3 x3 x4
  go_upto_region 5 with (first
    | (go_at_call 29; refine (parseT_awake _ _ _ _ hb (Nat.le_refl _)).mono ?_; rintro e w5 ⟨P5, p5, P6, p6, rfl, r5, r6, x5⟩)
    | ((with_reducible show wpList _ _ _ (Oper.mk _ (Op.store _ _ _) _ _ _ _ :: _) _ _); refine ts_store_new (cs := tsa qaT P5 p5 P6 p6) rfl rfl rfl rfl (ts_one _ _ _ _ _) ?_))
  have ja : Below w5.heap.size w5 (w5.alloc (.cells (tsa qaT P5 p5 P6 p6) 39)) := (Below.refl _ w5).alloc (Nat.le_refl _) _
  have at9 := Atts.new (q := qaT) (A := P5) (c := p5) (A' := P6) (c' := p6) w5
  have x45 := x5.trans (ja.mono x5.size)
  have q5 := q4.trans (x45.mono q4.size)
  have at0 := hAt4.below x45 (by omega)
  have r0 := ((ha4.below x45).rd).more x45.size
  have s5 := (r5.below ja).more ja.size
  have s6 := (r6.below ja).more ja.size
  clear r5 r6 ja x5 x45 hb ha4 hAt4 q4
  generalize w5.alloc (.cells (tsa qaT P5 p5 P6 p6) 39) = X at *
  go_wp2_with (first
    | ((with_reducible show wpList _ _ _ (Oper.mk (some 45) (Op.load 39 _) _ _ _ _ :: _) _ _); refine wpList_valw (by rfl) (run_load_ts rfl rfl at0 rfl) ?_)
    | ((with_reducible show wpList _ _ _ (Oper.mk (some 46) (Op.load 39 _) _ _ _ _ :: _) _ _); refine wpList_valw (by rfl) (run_load_ts rfl rfl at9 rfl) ?_)
    | (go_at_call 27; refine (cTsame qaT qaT (some ⟨w.heap.size, 0, none⟩) 8 none 0 P5 p5 P6 p6 X.heap.size _ (Nat.le_refl _) r0 s5 Rd.nil s6).mono ?_; rintro e w6 ⟨rfl, x6⟩; rw [KS.out]))
  go_ret
  exact ⟨rfl, q5.trans (x6.mono q5.size)⟩
end Go.Proofs.Ytggcjjcgiphjeaa
