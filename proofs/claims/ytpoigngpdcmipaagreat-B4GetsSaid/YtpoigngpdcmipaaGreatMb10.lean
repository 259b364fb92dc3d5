/-
  Contracts and lemmas on which the proofs of this seat stand (several texts in one). Conditions are each theorem's own.
-/
import Derived.Test.YtpoigngpdcmipaaGreatMb6
import Derived.Test.YtpoigngpdcmipaaGreatMb7
import Derived.Test.YtpoigngpdcmipaaGreatMb5
import Derived.Test.YtpoigngpdcmipaaGreatMb8
import Derived.Test.YtpoigngpdcmipaaGreatMb2
import Derived.Test.YtpoigngpdcmipaaGreatMb3
namespace Go.Proofs.YtpoigngpdcmipaaGreat
open Go.RowKit
section
variable (q : P6) (A : Option Addr) (c : Nat) (w : World)
set_option maxRecDepth 100000 in
set_option maxHeartbeats 1000000 in
theorem r6build (B : Nat) (hs : q.src.length = 16) (hd : q.dst.length = 16) (hl : q.dat.length ≤ 1000000) (hD : Arg w B A c q.dat) (hB0 : B ≤ w.heap.size) :
    Calls Tryz.prog 16 #[v6v q A c] w fun e w' => ∃ v, e = .returned (.tuple #[v, .int .i64 (chk6 q)]) ∧ (chk6 q ≠ 0 → v = .slice none 0 0 ∧ Below w.heap.size w w') ∧ (chk6 q = 0 → Made w w' v (bld6 q)) := by
  have hB : Below w.heap.size w (w.alloc (.cells (v6a q A c) 38)) := (Below.refl w.heap.size w).alloc (Nat.le_refl _) _
  have hAt := At6.new (q := q) (A := A) (c := c) w
  have hz : w.heap.size < (w.alloc (.cells (v6a q A c) 38)).heap.size := by simp
  unfold v6v
  rw [show (v6l q A c).toArray = v6a q A c from rfl]
  go_enter Tryz.func16, Tryz.ntmps16
  go_upto_region 1 with fail
  generalize w.alloc (.cells (v6a q A c) 38) = W at *
  by_cases hc : chk6 q = 0
  · obtain ⟨⟨a1, a2, a3, a4, a5, a6, a7, a8⟩, a9⟩ := chk6_zero hc
    have HC := Lib.hid hc
    clear hc
    go_upto_region 4 with (first
      | ((with_reducible show wpList _ _ _ (Oper.mk _ (Op.load 38 _) _ _ _ _ :: _) _ _); refine wpList_val rfl (run_load_v6 rfl rfl hAt (v6l_len hs hd)) ?_)
      | (go_at_call 38; refine (r6check q A c _ hs hd hl).mono ?_; rintro e w1 ⟨rfl, x1⟩; rw [HC.out]))
    have hAt1 := hAt.below x1 hz
    have k0 := hAt1.traffic; have k1 := hAt1.flow
    obtain ⟨N, hN⟩ : ∃ N, N = fst6 q := ⟨_, rfl⟩
    have HN := Lib.hid (show 1610612736 + q.traffic * 1048576 + q.flow = N from hN.symm)
    have HF : 0 ≤ N ∧ N < 4294967296 := by rw [hN, fst6]; omega
    have HH := Lib.hid (show hd6 q = be4 N ++ be2 (q.dat.length : Int) ++ [u8 q.next, u8 q.hop] by rw [hN]; rfl)
    clear hN
    obtain ⟨B4, hB4⟩ : ∃ b, b = putB [] N 4 := ⟨_, rfl⟩
    have HB4' := hB4
    rw [put_four HF.1 HF.2, List.nil_append] at HB4'
    have HL4 := Lib.hid (show B4.length = 4 by rw [HB4']; rfl)
    have HB5 := Lib.hid (show putB B4 (q.dat.length : Int) 2 = be4 N ++ be2 (q.dat.length : Int) by rw [put_two (by omega) a9, HB4'])
    have HB4 := Lib.hid hB4
    clear hB4 HB4'
    go_upto_region 5 with (go_at_call 39; rw [HN.out]; refine (rput_any none [] 0 0 N 4 _ (Arg.nil _ _) (by simp)).mono ?_; rintro e W1 ⟨v4, rfl, m4⟩; rw [← HB4.out] at m4; obtain ⟨A4, c4, rfl, arg4, ow4, x4⟩ := made_shape m4)
    have hb1 : Below W.heap.size W W1 := x1.trans (x4.mono x1.size)
    have e1 : IntKind.u8.wrap q.next = ((u8 q.next).toNat : Int) := by rw [u8_val, IntKind.wrap_u8]
    have e2 : IntKind.u8.wrap q.hop = ((u8 q.hop).toNat : Int) := by rw [u8_val, IntKind.wrap_u8]
    have E1 := Lib.hid e1; have E2 := Lib.hid e2
    clear k0 k1 hAt1 e1 e2
    go_cut [5] from 19 (fun s w' => ∃ A6 c6, s = .slice A6 (hd6 q).length c6 ∧ w'.ownsRow W1.heap.size 5 1 (.slice A6 (hd6 q).length c6) (hd6 q).length (row (hd6 q)) ∧ Below W1.heap.size W1 w')
    case first =>
      refine wp_region_held_drew (S := fun w' => Below W1.heap.size W1 w') (by kernel_rfl) (Below.refl _ W1).drew (fun hS => ?_)
      refine held_pure (i := 0) (oi := ⟨some 19, _, _, _, _, _⟩) rfl (by kernel_rfl) (by kernel_rfl) (by kernel_rfl) (fun _ _ _ h => h) (by rfl) (v := ?_) (fun w hSw => ?_) hS (fun hS => ?_)
      rotate_left
      · go_simp; try with_reducible rfl
      try go_frame
      refine held_pure (i := 1) (oi := ⟨some 20, _, _, _, _, _⟩) rfl (by kernel_rfl) (by kernel_rfl) (by kernel_rfl) (fun _ _ _ h => h) (by rfl) (v := ?_) (fun w hSw => ?_) hS (fun hS => ?_)
      rotate_left
      · go_simp; try with_reducible rfl
      try go_frame
      refine held_pure (i := 2) (oi := ⟨some 21, _, _, _, _, _⟩) rfl (by kernel_rfl) (by kernel_rfl) (by kernel_rfl) (fun _ _ _ h => h) (by rfl) (fun w hSw => run_load_sl rfl rfl ((hAt.below (hb1.trans (hSw.mono hb1.size)) hz).dat hs hd)) hS (fun hS => ?_)
      try go_frame
      refine held_pure (i := 3) (oi := ⟨some 22, _, _, _, _, _⟩) rfl (by kernel_rfl) (by kernel_rfl) (by kernel_rfl) (fun _ _ _ h => h) (by rfl) (v := ?_) (fun w hSw => ?_) hS (fun hS => ?_)
      rotate_left
      · go_simp; try with_reducible rfl
      try go_frame
      refine held_pure (i := 5) (oi := ⟨some 24, _, _, _, _, _⟩) rfl (by kernel_rfl) (by kernel_rfl) (by kernel_rfl) (fun _ _ _ h => h) (by rfl) (v := ?_) (fun w hSw => ?_) hS (fun hS => ?_)
      rotate_left
      · go_simp; try with_reducible rfl
      try go_frame
      refine held_pure (i := 6) (oi := ⟨some 25, _, _, _, _, _⟩) rfl (by kernel_rfl) (by kernel_rfl) (by kernel_rfl) (fun _ _ _ h => h) (by rfl) (fun w hSw => run_load_int rfl rfl ((hAt.below (hb1.trans (hSw.mono hb1.size)) hz).next)) hS (fun hS => ?_)
      try go_frame
      refine held_pure (i := 7) (oi := ⟨some 26, _, _, _, _, _⟩) rfl (by kernel_rfl) (by kernel_rfl) (by kernel_rfl) (fun _ _ _ h => h) (by rfl) (v := ?_) (fun w hSw => ?_) hS (fun hS => ?_)
      rotate_left
      · go_simp; try with_reducible rfl
      try go_frame
      refine held_pure (i := 8) (oi := ⟨some 27, _, _, _, _, _⟩) rfl (by kernel_rfl) (by kernel_rfl) (by kernel_rfl) (fun _ _ _ h => h) (by rfl) (v := ?_) (fun w hSw => ?_) hS (fun hS => ?_)
      rotate_left
      · go_simp; try with_reducible rfl
      try go_frame
      refine held_pure (i := 9) (oi := ⟨some 28, _, _, _, _, _⟩) rfl (by kernel_rfl) (by kernel_rfl) (by kernel_rfl) (fun _ _ _ h => h) (by rfl) (fun w hSw => run_load_int rfl rfl ((hAt.below (hb1.trans (hSw.mono hb1.size)) hz).hop)) hS (fun hS => ?_)
      try go_frame
      refine held_pure (i := 10) (oi := ⟨some 29, _, _, _, _, _⟩) rfl (by kernel_rfl) (by kernel_rfl) (by kernel_rfl) (fun _ _ _ h => h) (by rfl) (v := ?_) (fun w hSw => ?_) hS (fun hS => ?_)
      rotate_left
      · go_simp; try with_reducible rfl
      try go_frame
      refine wpAnyH_ready (rs := [4, 11]) (by kernel_rfl) (by simp) (AllReadyH.cons (o := ⟨some 23, _, _, _, _, _⟩) rfl (fun K hK => ?_) (AllReadyH.cons (o := ⟨some 30, _, _, _, _, _⟩) rfl (fun K hK => ?_) AllReadyH.nil))
      · rw [if_pos (by rfl)]
        go_simp
        refine (rput_any A4 B4 c4 _ _ 2 _ (arg4.below hS) (by rw [HL4.out]; decide)).mono ?_
        rintro e w5 ⟨v5, rfl, m5⟩
        obtain ⟨A5, c5, rfl, arg5, ow5, x5⟩ := made_shape m5
        show K _ _
        refine hK.out _ _ (below_step hS x5) (fun hS => ?_)
        clear hK K
        try go_frame
        refine wpAnyH_ready (rs := [11]) (by kernel_rfl) (by simp) (AllReadyH.cons (o := ⟨some 30, _, _, _, _, _⟩) rfl (fun K hK => ?_) AllReadyH.nil)
        rw [if_pos (by rfl)]
        go_simp
        refine hK.out _ _ (hS.alloc hS.size _) (fun hS => ?_)
        clear hK K
        try go_frame
        refine wpAnyH_ready (rs := [12]) (by kernel_rfl) (by simp) (AllReadyH.cons (o := ⟨some 31, _, _, _, _, _⟩) rfl (fun K hK => ?_) AllReadyH.nil)
        rw [if_pos (by rfl)]
        refine append_wp _ _ rfl W1.heap.size _ _ _ rfl (by first | exact own_base ow5 (by simp) | exact own_below (own_base ow5 (by simp)) ((Below.refl _ _).alloc (Nat.le_refl _) _)) _ _ 2 [u8 q.next, u8 q.hop] rfl (fun e => by cases e) (by first | exact Rd.pair _ E1.out E2.out | exact ((Rd.pair _ E1.out E2.out).drewN 1).below (x5.mono (by show W1.heap.size + 1 ≤ (W1.alloc _).heap.size; simp))) (by rw [HB5.out]; simp [be4, be2]) hS.size ?_
        intro v12 w12 own12 grow12
        obtain ⟨A12, c12, rfl, owm12⟩ := own_made (bs := hd6 q) own12 (by rw [HH.out, HB5.out]; simp [be4, be2]) (by rw [HH.out, row_append, HB5.out])
        refine hK.out _ _ (hS.grown grow12 hS.size (fun k hk => own_block_ge (base := W1.heap.size) (by first | exact own_base ow5 (by simp) | exact own_below (own_base ow5 (by simp)) ((Below.refl _ _).alloc (Nat.le_refl _) _)) k hk)) (fun hS => ?_)
        clear hK K
        try go_frame
        refine held_pure (i := 13) (oi := ⟨some 5, _, _, _, _, _⟩) rfl (by kernel_rfl) (by kernel_rfl) (by kernel_rfl) (fun _ _ _ h => h) (by rfl) (v := ?_) (fun w hSw => ?_) hS (fun hS => ?_)
        rotate_left
        · go_simp; try with_reducible rfl
        try go_frame
        refine wpAnyH_done (by kernel_rfl) ?_ _
        go_wp2_with fail
        go_meet
        exact ⟨A12, c12, rfl, owm12, hS⟩
      · rw [if_pos (by rfl)]
        go_simp
        refine hK.out _ _ (hS.alloc hS.size _) (fun hS => ?_)
        clear hK K
        try go_frame
        refine wpAnyH_ready (rs := [4]) (by kernel_rfl) (by simp) (AllReadyH.cons (o := ⟨some 23, _, _, _, _, _⟩) rfl (fun K hK => ?_) AllReadyH.nil)
        rw [if_pos (by rfl)]
        go_simp
        refine (rput_any A4 B4 c4 _ _ 2 _ (arg4.below hS) (by rw [HL4.out]; decide)).mono ?_
        rintro e w5 ⟨v5, rfl, m5⟩
        obtain ⟨A5, c5, rfl, arg5, ow5, x5⟩ := made_shape m5
        show K _ _
        refine hK.out _ _ (below_step hS x5) (fun hS => ?_)
        clear hK K
        try go_frame
        refine wpAnyH_ready (rs := [12]) (by kernel_rfl) (by simp) (AllReadyH.cons (o := ⟨some 31, _, _, _, _, _⟩) rfl (fun K hK => ?_) AllReadyH.nil)
        rw [if_pos (by rfl)]
        refine append_wp _ _ rfl W1.heap.size _ _ _ rfl (by first | exact own_base ow5 (by simp) | exact own_below (own_base ow5 (by simp)) ((Below.refl _ _).alloc (Nat.le_refl _) _)) _ _ 2 [u8 q.next, u8 q.hop] rfl (fun e => by cases e) (by first | exact Rd.pair _ E1.out E2.out | exact ((Rd.pair _ E1.out E2.out).drewN 1).below (x5.mono (by show W1.heap.size + 1 ≤ (W1.alloc _).heap.size; simp))) (by rw [HB5.out]; simp [be4, be2]) hS.size ?_
        intro v12 w12 own12 grow12
        obtain ⟨A12, c12, rfl, owm12⟩ := own_made (bs := hd6 q) own12 (by rw [HH.out, HB5.out]; simp [be4, be2]) (by rw [HH.out, row_append, HB5.out])
        refine hK.out _ _ (hS.grown grow12 hS.size (fun k hk => own_block_ge (base := W1.heap.size) (by first | exact own_base ow5 (by simp) | exact own_below (own_base ow5 (by simp)) ((Below.refl _ _).alloc (Nat.le_refl _) _)) k hk)) (fun hS => ?_)
        clear hK K
        try go_frame
        refine held_pure (i := 13) (oi := ⟨some 5, _, _, _, _, _⟩) rfl (by kernel_rfl) (by kernel_rfl) (by kernel_rfl) (fun _ _ _ h => h) (by rfl) (v := ?_) (fun w hSw => ?_) hS (fun hS => ?_)
        rotate_left
        · go_simp; try with_reducible rfl
        try go_frame
        refine wpAnyH_done (by kernel_rfl) ?_ _
        go_wp2_with fail
        go_meet
        exact ⟨A12, c12, rfl, owm12, hS⟩
    case rest =>
      obtain ⟨A12, c12, hs5, owm12, hS6⟩ := hcut
      subst hs5
      obtain ⟨H7, hH7⟩ : ∃ b, b = hd6 q ++ q.src := ⟨_, rfl⟩
      obtain ⟨H8, hH8⟩ : ∃ b, b = H7 ++ q.dst := ⟨_, rfl⟩
      have HH9 := Lib.hid (show bld6 q = H8 ++ q.dat by rw [hH8, hH7]; rfl)
      have HH7 := Lib.hid hH7; have HH8 := Lib.hid hH8
      have HL8 := Lib.hid (show H8.length = 40 by rw [hH8, hH7, List.length_append, List.length_append, hd6_len, hs, hd])
      have HS := Lib.hid hs; have HT := Lib.hid hd
      clear hH7 hH8
      go_wp2_with fail
      refine wp_region_held_drew (S := fun w' => Below W1.heap.size W1 w') (by kernel_rfl) hS6.drew (fun hS => ?_)
      refine held_pure (i := 0) (oi := ⟨some 32, _, _, _, _, _⟩) rfl (by kernel_rfl) (by kernel_rfl) (by kernel_rfl) (fun _ _ _ h => h) (by rfl) (v := ?_) (fun w hSw => ?_) hS (fun hS => ?_)
      rotate_left
      · go_simp; try with_reducible rfl
      try go_frame
      refine held_pure (i := 1) (oi := ⟨some 33, _, _, _, _, _⟩) rfl (by kernel_rfl) (by kernel_rfl) (by kernel_rfl) (fun _ _ _ h => h) (by rfl) (v := ?_) (fun w hSw => ?_) hS (fun hS => ?_)
      rotate_left
      · go_simp; try with_reducible rfl
      try go_frame
      refine held_pure (i := 2) (oi := ⟨some 34, _, _, _, _, _⟩) rfl (by kernel_rfl) (by kernel_rfl) (by kernel_rfl) (fun _ _ _ h => h) (by rfl) (fun w hSw => run_slice_six rfl rfl) hS (fun hS => ?_)
      try go_frame
      refine held_pure (i := 4) (oi := ⟨some 36, _, _, _, _, _⟩) rfl (by kernel_rfl) (by kernel_rfl) (by kernel_rfl) (fun _ _ _ h => h) (by rfl) (v := ?_) (fun w hSw => ?_) hS (fun hS => ?_)
      rotate_left
      · go_simp; try with_reducible rfl
      try go_frame
      refine held_pure (i := 5) (oi := ⟨some 37, _, _, _, _, _⟩) rfl (by kernel_rfl) (by kernel_rfl) (by kernel_rfl) (fun _ _ _ h => h) (by rfl) (fun w hSw => run_slice_six rfl rfl) hS (fun hS => ?_)
      try go_frame
      refine wpAnyH_ready (rs := [3]) (by kernel_rfl) (by simp) (AllReadyH.cons (o := ⟨some 35, _, _, _, _, _⟩) rfl (fun K hK => ?_) AllReadyH.nil)
      rw [if_pos (by rfl)]
      refine append_wp _ _ rfl W1.heap.size _ _ _ rfl owm12 W.heap.size _ 16 q.src (by rw [HS.out]; rfl) (fun e => by cases e) (Rd.of_range ((hAt.below (hb1.trans (hS.mono hb1.size)) hz).src) hz) (by rw [HS.out, hd6_len]; decide) hS.size ?_
      intro v3 w3 own3 grow3
      obtain ⟨A13, c13, rfl, owm13⟩ := own_made (bs := H7) own3 (by rw [HH7.out, List.length_append]) (by rw [HH7.out, row_append])
      refine hK.out _ _ (hS.grown grow3 hS.size (fun k hk => own_block_ge owm12 k hk)) (fun hS => ?_)
      clear hK K
      try go_frame
      refine wpAnyH_ready (rs := [6]) (by kernel_rfl) (by simp) (AllReadyH.cons (o := ⟨some 38, _, _, _, _, _⟩) rfl (fun K hK => ?_) AllReadyH.nil)
      rw [if_pos (by rfl)]
      refine append_wp _ _ rfl W1.heap.size _ _ _ rfl owm13 W.heap.size _ 16 q.dst (by rw [HT.out]; rfl) (fun e => by cases e) (Rd.of_range ((hAt.below (hb1.trans (hS.mono hb1.size)) hz).dst hs) hz) (by rw [HT.out, HH7.out, List.length_append, HS.out, hd6_len]; decide) hS.size ?_
      intro v6 w6 own6 grow6
      obtain ⟨A16, c16, rfl, owm16⟩ := own_made (bs := H8) own6 (by rw [HH8.out, List.length_append]) (by rw [HH8.out, row_append])
      refine hK.out _ _ (hS.grown grow6 hS.size (fun k hk => own_block_ge owm13 k hk)) (fun hS => ?_)
      clear hK K
      try go_frame
      refine held_pure (i := 7) (oi := ⟨some 5, _, _, _, _, _⟩) rfl (by kernel_rfl) (by kernel_rfl) (by kernel_rfl) (fun _ _ _ h => h) (by rfl) (v := ?_) (fun w hSw => ?_) hS (fun hS => ?_)
      rotate_left
      · go_simp; try with_reducible rfl
      try go_frame
      refine wpAnyH_done (by kernel_rfl) ?_ _
      have hb8 := hb1.trans (hS.mono hb1.size)
      have k6 := (hAt.below hb8 hz).dat hs hd
      have hdd := hD.below ((hB.trans (hb8.mono hB.size)).mono hB0)
      have own8 := owm16
      go_wp2_with (at_builtin; refine append_rd rfl _ _ rfl W1.heap.size _ _ _ rfl own8 B A c q.dat rfl hD.none_ hdd.rd (by rw [HL8.out]; omega) hS.size ?_; intro v9 w9 own9 grow9; obtain ⟨A19, c19, rfl, owm19⟩ := own_made (bs := bld6 q) own9 (by rw [HH9.out, List.length_append]) (by rw [HH9.out, row_append]))
      go_ret2
      have hb9 := hS.grown grow9 hS.size (fun k hk => own_block_ge own8 k hk)
      exact ⟨.slice A19 (bld6 q).length c19, by rw [HC.out]; rfl, fun h => absurd HC.out h, fun _ => Made.of_own (own_base owm19 (hB.trans (hb1.mono hB.size)).size) (hB.trans ((hb1.trans (hb9.mono hb1.size)).mono hB.size))⟩
  · have hne : (chk6 q != 0) = true := by simpa using hc
    have HN := Lib.hid hc
    clear hc
    go_wp2_with (first
      | ((with_reducible show wpList _ _ _ (Oper.mk _ (Op.load 38 _) _ _ _ _ :: _) _ _); refine wpList_val rfl (run_load_v6 rfl rfl hAt (v6l_len hs hd)) ?_)
      | (go_at_call 38; refine (r6check q A c _ hs hd hl).mono ?_; rintro e w1 ⟨rfl, x1⟩; skip))
    go_ret2
    exact ⟨.slice none 0 0, rfl, fun _ => ⟨rfl, hB.trans (x1.mono (by omega))⟩, fun h => absurd h HN.out⟩
end
end Go.Proofs.YtpoigngpdcmipaaGreat
namespace Go.Proofs.YtpoigngpdcmipaaGreat
open Go.RowKit Go.ChangeShapes Go.WideShapes
structure PI where
  typ : Int
  code : Int
  rest : Int
  dat : List UInt8
def isa (q : PI) (A : Option Addr) (c : Nat) : Array Value := #[.int .i64 q.typ, .int .i64 q.code, .int .i64 q.rest, .slice A q.dat.length c]
def isv (q : PI) (A : Option Addr) (c : Nat) : Value := .agg #[.int .i64 q.typ, .int .i64 q.code, .int .i64 q.rest, .slice A q.dat.length c]
theorem isv_eq (q : PI) (A : Option Addr) (c : Nat) : isv q A c = .agg (isa q A c) := rfl
def Atis (W : World) (g : Nat) (q : PI) (A : Option Addr) (c : Nat) : Prop := W.rangeAt g 0 (isa q A c).toList
section
variable {W : World} {g : Nat} {q : PI} {A : Option Addr} {c : Nat}
theorem Atis.new (w : World) : Atis (w.alloc (.cells (isa q A c) 160)) w.heap.size q A c := fun j v hj => by
  rw [Nat.zero_add, World.cell?_alloc_new, ← hj, Array.getElem?_toList]
theorem Atis.below {w : World} {B : Nat} (h : Atis W g q A c) (hb : Below B W w) (hg : g < B) : Atis w g q A c := range_below h hg hb
theorem Atis.typ (h : Atis W g q A c) : W.cell? ⟨g, 0, none⟩ = some (.int .i64 q.typ) := h 0 _ rfl
theorem Atis.code (h : Atis W g q A c) : W.cell? ⟨g, 1, none⟩ = some (.int .i64 q.code) := h 1 _ rfl
theorem Atis.rest (h : Atis W g q A c) : W.cell? ⟨g, 2, none⟩ = some (.int .i64 q.rest) := h 2 _ rfl
theorem Atis.dat (h : Atis W g q A c) : W.cell? ⟨g, 3, none⟩ = some (.slice A q.dat.length c) := h 3 _ rfl
end
theorem run_load_is {o : Oper} {a : Act} {w : World} {x : Operand} {g : Nat} {cs : List Value} (ho : o.op = .load 160 x) (hx : a.eval x = .pointer (some ⟨g, 0, none⟩)) (hr : w.rangeAt g 0 cs) (hl : cs.length = 4) :
    (execOp a.eval o).run Tryz.prog w = .ok (.value (.agg cs.toArray)) w := by
  have h := run_loadVar_mid (P := Tryz.prog) w g 0 160 cs _ hr Tryz.underlying160 rfl (by rw [hl]; kernel_rfl)
  unfold execOp
  simp only [ho, hx, Instr.loadAt, Instr.sureAddr, Sem.run_bind, Sem.run_pure, Result.andThen_ok, h]
end Go.Proofs.YtpoigngpdcmipaaGreat
namespace Go.Proofs.YtpoigngpdcmipaaGreat
open Go.RowKit
def argI (q : PI) : Prop := 0 ≤ q.typ ∧ q.typ ≤ 255 ∧ 0 ≤ q.code ∧ q.code ≤ 255 ∧ 0 ≤ q.rest ∧ q.rest < 4294967296
instance (q : PI) : Decidable (argI q) := by unfold argI; infer_instance
def chkI (q : PI) : Int := if argI q then (if q.dat.length > 65527 then 6 else 0) else 1
theorem chkI_ok {q : PI} (h : chkI q = 0) : argI q ∧ q.dat.length ≤ 65527 := by
  unfold chkI at h
  split at h
  · rename_i ha
    split at h
    · cases h
    · exact ⟨ha, by omega⟩
  · cases h
theorem argI_iff (q : PI) : argI q ↔ (fitsB q.typ 1 = true ∧ fitsB q.code 1 = true ∧ fitsB q.rest 4 = true) := by
  rw [fitsB_iff, fitsB_iff, fitsB_iff, pw1, pw4, argI]; omega
def hdI (q : PI) (s : Int) : List UInt8 := [u8 q.typ, u8 q.code] ++ be2 s ++ be4 q.rest
theorem hdI_len (q : PI) (s : Int) : (hdI q s).length = 8 := by simp [hdI, be2, be4]
def smI (p : List UInt8) (q : PI) : Int := 65535 - fold (psum [p, hdI q 0, q.dat])
theorem smI_bd (p : List UInt8) (q : PI) : 0 ≤ smI p q ∧ smI p q ≤ 65535 := by
  have := fold_bd (psum [p, hdI q 0, q.dat]); unfold smI; omega
def bldI (p : List UInt8) (q : PI) : List UInt8 := hdI q (smI p q) ++ q.dat
theorem bldI_len (p : List UInt8) (q : PI) : (bldI p q).length = 8 + q.dat.length := by rw [bldI, List.length_append, hdI_len]
theorem psum_nil (l : List (List UInt8)) : psum ([] :: l) = psum l := by rw [psum_cons]; simp [wall, prs, wsum]
theorem smI_nil (q : PI) : smI [] q = 65535 - fold (psum [hdI q 0, q.dat]) := by rw [smI, psum_nil]
def fltI (k : Int) : Bool := decide (k ∈ [3, 4, 5, 11, 12])
end Go.Proofs.YtpoigngpdcmipaaGreat
namespace Go.Proofs.YtpoigngpdcmipaaGreat
open Go.RowKit
def hostB (a : Int) : Bool := decide (16777216 ≤ a ∧ a < 3758096384 ∧ ¬ (2130706432 ≤ a ∧ a < 2147483648))
end Go.Proofs.YtpoigngpdcmipaaGreat
namespace Go.Proofs.YtpoigngpdcmipaaGreat
open Go.RowKit
def tnE (b : List UInt8) : Bool := decide (0 < b.length) && !fltI (byt b 0)
def okE (E : Int) (q : P4) : Bool := (E == 0) && (q.off == 0) && hostB q.src && hostB q.dst && ((q.proto != 1) || tnE q.dat)
def mayE (b : List UInt8) : Bool := okE (prsE b true) (prsV b true)
def nE (b : List UInt8) : Nat := min (size4 (prsV b true)).toNat 548
def msE (kind code rest : Int) (b : List UInt8) : PI := ⟨kind, code, rest, b.take (nE b)⟩
def pkE (from_ : Int) (b : List UInt8) (m : PI) : P4 := ⟨0, 0, 0, 64, 1, from_, (prsV b true).src, false, false, [], bldI [] m⟩
def mkE (from_ kind code rest : Int) (b : List UInt8) : Int :=
  if mayE b = true then (if chkI (msE kind code rest b) = 0 then (if chk4 (pkE from_ b (msE kind code rest b)) = 0 then 0 else 1) else 1) else 11
def mkV (from_ kind code rest : Int) (b : List UInt8) : P4 := if mkE from_ kind code rest b = 0 then pkE from_ b (msE kind code rest b) else p4z
theorem raw_off (b : List UInt8) : 0 ≤ (prsV b true).off := by
  unfold prsV
  split
  · show 0 ≤ n2 b 6 % 8192 * 8
    omega
  · exact Int.le_refl _
theorem raw_len {b : List UInt8} (h : prsE b true = 0) : 20 ≤ size4 (prsV b true) ∧ size4 (prsV b true) ≤ (b.length : Int) ∧ (prsV b true).opt.length ≤ b.length ∧ (prsV b true).dat.length ≤ b.length := by
  have hb : bad4 b true = 0 := by
    unfold prsE at h
    split at h
    · assumption
    · exact h
  have hv : prsV b true = raw4 b := by rw [prsV, if_pos h]
  rw [hv]
  unfold bad4 at hb
  split at hb
  · cases hb
  split at hb
  · cases hb
  split at hb
  · cases hb
  split at hb
  · cases hb
  rename_i h1 h2 h3 h4
  have ho : (raw4 b).opt.length = (hlen b).toNat - 20 := by
    show ((b.take (hlen b).toNat).drop 20).length = _
    rw [List.length_drop, List.length_take]
    omega
  have hd : (raw4 b).dat.length = (min (n2 b 2) (b.length : Int)).toNat - (hlen b).toNat := by
    show ((b.take (min (n2 b 2) (b.length : Int)).toNat).drop (hlen b).toNat).length = _
    rw [List.length_drop, List.length_take]
    omega
  have hs : size4 (raw4 b) = 20 + ((raw4 b).opt.length : Int) + ((raw4 b).dat.length : Int) := by
    unfold size4 head4
    omega
  omega
theorem may_ok {b : List UInt8} (h : mayE b = true) : prsE b true = 0 := by
  unfold mayE okE at h
  simp only [Bool.and_eq_true, beq_iff_eq] at h
  exact h.1.1.1.1
theorem mkE_may {a k c r : Int} {b : List UInt8} (h : mkE a k c r b = 0) : mayE b = true ∧ chkI (msE k c r b) = 0 ∧ chk4 (pkE a b (msE k c r b)) = 0 := by
  unfold mkE at h
  split at h
  · split at h
    · split at h
      · exact ⟨by assumption, by assumption, by assumption⟩
      · cases h
    · cases h
  · cases h
theorem nE_le {b : List UInt8} (h : mayE b = true) : nE b ≤ b.length := by
  have := raw_len (may_ok h)
  unfold nE
  omega
end Go.Proofs.YtpoigngpdcmipaaGreat
