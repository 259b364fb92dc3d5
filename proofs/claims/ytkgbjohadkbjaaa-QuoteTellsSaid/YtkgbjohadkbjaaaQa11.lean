/-
  Contracts and lemmas on which the proofs of this seat stand (several texts in one). Conditions are each theorem's own.
-/
import Derived.Test.YtkgbjohadkbjaaaQa10

/-
  Contracts of layer 26's From and To, of the code. Conditions are each theorem's own.
-/
namespace Go.Proofs.Ytkgbjohadkbjaaa
open Go.RowKit
/-- What is wrong; the bytes. -/
def frE (b : List UInt8) (a n : Int) : Int := if qE b ≠ 0 then qE b else if fitsB a 4 = true ∧ fitsB n 2 = true then 0 else 1
def hQ (b : List UInt8) : Nat := 20 + (prsV b true).opt.length
def frV (b : List UInt8) (fr : Bool) (a n : Int) : List UInt8 := if frE b a n = 0 then putQ b (prsV b true) (hQ b) fr a n else []
theorem puts_put {b : List UInt8} {q : P4} {H : Nat} (h : Quo b q H) (fr : Bool) (a n : Int) (xa xn x6 r : Xc) (e1 : xa.q = ⟨(whQ fr : Nat), oaQ b fr, be4 a⟩) (e2 : xn.q = ⟨((H + ppQ q.proto fr : Nat) : Int), opQ b q H fr, be2 n⟩) (e3 : x6.q.pl = ((10 : Nat) : Int)) (e4 : x6.q.now = be2 (hsQ b fr a)) (e5 : r.q = wiQ b q H fr a n) :
    putsX [xa, xn, x6, r] b = putQ b q H fr a n ∧ (∀ x ∈ [xa, xn, x6, r], ∃ p : Nat, x.q.pl = (p : Int) ∧ p + x.q.now.length ≤ b.length) := by
  have h1 := h.h20; have h2 := h.le; have h3 := h.d8; have h4 := ppQ_le q.proto fr; have h5 := wh_le fr
  constructor
  · simp only [putsX, List.foldl_cons, List.foldl_nil, e1, e2, e3, e4, e5, Int.toNat_natCast]
    unfold putQ wiQ
    split
    · simp only [Int.toNat_natCast]
      rw [Nat.add_comm (satQ q) H]; rfl
    · show splice _ _ [] = _
      rw [splice_nil]; rfl
  · intro x hx
    have hx2 : x = xa ∨ x = xn ∨ x = x6 ∨ x = r := by simpa using hx
    rcases hx2 with rfl | rfl | rfl | rfl
    · exact ⟨whQ fr, by rw [e1], by rw [e1]; show _ + (be4 a).length ≤ _; rw [be4_len]; omega⟩
    · exact ⟨H + ppQ q.proto fr, by rw [e2], by rw [e2]; show _ + (be2 n).length ≤ _; rw [be2_len]; omega⟩
    · exact ⟨10, e3, by rw [e4, be2_len]; omega⟩
    · rw [e5]
      unfold wiQ
      split
      · rename_i g
        simp only [sisQ, Bool.and_eq_true, decide_eq_true_eq] at g
        exact ⟨satQ q + H, rfl, by show _ + (be2 _).length ≤ _; rw [be2_len]; omega⟩
      · exact ⟨0, rfl, Nat.zero_le _⟩
theorem two_boxes2 (w2 : World) (c c' d d' : Array Value) (t t' : Nat) : Below w2.heap.size w2 ((((w2.alloc (.cells c t)).alloc (.cells c' t')).setRow w2.heap.size d).setRow (w2.heap.size + 1) d') ∧ ((((w2.alloc (.cells c t)).alloc (.cells c' t')).setRow w2.heap.size d).setRow (w2.heap.size + 1) d').heap[w2.heap.size]? = some (.cells d t (0, 0)) ∧ ((((w2.alloc (.cells c t)).alloc (.cells c' t')).setRow w2.heap.size d).setRow (w2.heap.size + 1) d').heap[w2.heap.size + 1]? = some (.cells d' t' (0, 0)) := by
  have h0 : ((w2.alloc (.cells c t)).alloc (.cells c' t')).heap[w2.heap.size]? = some (.cells c t (0, 0)) := two_firstQ w2 _ _
  have h1 : ((w2.alloc (.cells c t)).alloc (.cells c' t')).heap[w2.heap.size + 1]? = some (.cells c' t' (0, 0)) := two_heap w2 _ _
  have g1 := (setRow_other ((w2.alloc (.cells c t)).alloc (.cells c' t')) w2.heap.size (w2.heap.size + 1) d (by omega)).trans h1
  exact ⟨below_row (below_row (((Below.refl _ w2).alloc (Nat.le_refl _) _).alloc (by simp) _) (Nat.le_refl _)) (by omega), (setRow_other _ (w2.heap.size + 1) w2.heap.size d' (by omega)).trans (setRow_heap _ _ _ _ _ _ h0), setRow_heap _ _ _ _ _ _ g1⟩
theorem pack9 {V3 cur : World} {z17 p7 : Nat} {P7 : Option Addr} {bs : List UInt8} {cs old : Array Value} (hS : Below V3.heap.size V3 cur) (g17 : cur.heap[z17]? = some (.cells old 126 (0, 0))) (hAF : ∀ cs : Array Value, Arg (cur.setRow z17 cs) (cur.setRow z17 cs).heap.size P7 p7 bs) (l17 : V3.heap.size ≤ z17) :
    ∃ V4, V4 = cur.setRow z17 cs ∧ Below V3.heap.size V3 V4 ∧ V4.heap[z17]? = some (.cells cs 126 (0, 0)) ∧ Arg V4 V4.heap.size P7 p7 bs :=
  ⟨_, rfl, below_row hS l17, setRow_heap _ _ _ _ _ _ g17, hAF cs⟩
set_option maxRecDepth 100000 in
set_option maxHeartbeats 8000000 in
theorem cqwith (b : List UInt8) (A : Option Addr) (c B : Nat) (fr : Bool) (a n : Int) (w : World) (hA : Arg w B A c b) (hB : B ≤ w.heap.size) (hl : b.length ≤ 1000000) :
    Calls Try.prog 58 #[.slice A b.length c, .bool fr, .int .i64 a, .int .i64 n] w fun e w' => ∃ P p, e = .returned (.tuple #[.slice P (frV b fr a n).length p, .int .i64 (frE b a n)]) ∧ Made w w' (.slice P (frV b fr a n).length p) (frV b fr a n) := by
  obtain ⟨FE, hFE⟩ : ∃ x, x = frE b a n := ⟨_, rfl⟩
  obtain ⟨FV, hFV⟩ : ∃ x, x = frV b fr a n := ⟨_, rfl⟩
  rw [← hFE, ← hFV]
  obtain ⟨E, hE⟩ : ∃ x, x = qE b := ⟨_, rfl⟩
  have HE := Lib.hid hE
  have HFE : Hid (FE = if E ≠ 0 then E else if fitsB a 4 = true ∧ fitsB n 2 = true then 0 else 1) := Lib.hid (by rw [hFE, hE]; rfl)
  have HFV : Hid (FV = if FE = 0 then putQ b (prsV b true) (hQ b) fr a n else []) := Lib.hid (by rw [hFV, hFE]; rfl)
  clear hFE hFV hE
  have hPO := Lib.hid (show poV b = .agg (pqa ⟨poP b, poN b true, poN b false⟩) from rfl)
  go_enter Try.func58, Try.ntmps58
  go_upto_region 2 with (first
    | (go_at_call 24; refine (cqports b A c B w hA hB hl).mono ?_; rintro e w1 ⟨P, p, P', p', rfl, mo, md⟩; rw [← HE.out, hPO.out])
    | ((with_reducible show wpList _ _ _ (Oper.mk _ (Op.store 48 _ _) _ _ _ _ :: _) _ _); refine v4_store (g := w1.heap.size) (cs := v4a (qV b) P p P' p') rfl rfl (two_firstQ w1 _ _) rfl rfl (v4a_one _ _ _ _ _) ?_)
    | ((with_reducible show wpList _ _ _ (Oper.mk _ (Op.store 50 _ _) _ _ _ _ :: _) _ _); refine pq_store (g := w1.heap.size + 1) (cs := pqa ⟨poP b, poN b true, poN b false⟩) rfl rfl ((setRow_other _ _ _ _ (by omega)).trans (two_heap w1 _ _)) rfl rfl (pq_one _) ?_))
  obtain ⟨x1V, g10, _⟩ := two_boxes2 w1 #[.int .i64 0, .int .i64 0, .int .i64 0, .int .i64 0, .int .i64 0, .int .i64 0, .int .i64 0, .bool false, .bool false, .slice none 0 0, .slice none 0 0] #[.int .i64 0, .int .i64 0, .int .i64 0] (v4a (qV b) P p P' p') (pqa ⟨poP b, poN b true, poN b false⟩) 48 50
  generalize (((w1.alloc (.cells #[.int .i64 0, .int .i64 0, .int .i64 0, .int .i64 0, .int .i64 0, .int .i64 0, .int .i64 0, .bool false, .bool false, .slice none 0 0, .slice none 0 0] 48)).alloc (.cells #[.int .i64 0, .int .i64 0, .int .i64 0] 50)).setRow w1.heap.size (v4a (qV b) P p P' p')).setRow (w1.heap.size + 1) (pqa ⟨poP b, poN b true, poN b false⟩) = V1 at *
  have hb1 := mo.below.trans (x1V.mono mo.below.size)
  have hz1 := heap_lt g10
  have NIL : ∀ W', Below w.heap.size w W' → FE ≠ 0 → ∃ P p, Ending.returned (.tuple #[.slice none 0 0, .int .i64 FE]) = .returned (.tuple #[.slice P FV.length p, .int .i64 FE]) ∧ Made w W' (.slice P FV.length p) FV := fun W' h1 h2 => by
    have : FV = [] := by rw [HFV.out, if_neg h2]
    subst this
    exact ⟨none, 0, rfl, Made.nil _ _ h1⟩
  have NIL := Lib.hid NIL
  by_cases h0 : E = 0
  · subst h0
    obtain ⟨q, H, hq⟩ := qE_quo HE.out.symm
    have hqv := hq.qv
    rw [hqv] at g10 md mo
    clear hqv
    obtain ⟨f4, hf4⟩ : ∃ r, r = fitsB a 4 := ⟨_, rfl⟩
    obtain ⟨f2, hf2⟩ : ∃ r, r = fitsB n 2 := ⟨_, rfl⟩
    have HF4 := Lib.hid hf4.symm
    have HF2 := Lib.hid hf2.symm
    have HFE2 := Lib.hid (show FE = if f4 = true ∧ f2 = true then 0 else 1 by rw [HFE.out, if_neg (by simp), HF4.out, HF2.out])
    clear hf4 hf2
    cases f4
    · have HN := Lib.hid (show FE = 1 by rw [HFE2.out]; rfl)
      go_wp2_with (go_at_call 75; refine (fits_any a 4 _).mono ?_; rintro e W ⟨rfl, rfl⟩; rw [HF4.out])
      go_ret2
      have := NIL.out _ hb1 (by rw [HN.out]; decide)
      rw [HN.out] at this ⊢
      exact this
    · cases f2
      · have HN := Lib.hid (show FE = 1 by rw [HFE2.out]; rfl)
        go_wp2_with (go_at_call 75; refine (fits_any _ _ _).mono ?_; rintro e W ⟨rfl, rfl⟩; (first | rw [HF4.out] | rw [HF2.out]))
        go_ret2
        have := NIL.out _ hb1 (by rw [HN.out]; decide)
        rw [HN.out] at this ⊢
        exact this
      · have HN := Lib.hid (show FE = 0 by rw [HFE2.out]; rfl)
        go_upto_region 7 with (go_at_call 75; refine (fits_any _ _ _).mono ?_; rintro e W ⟨rfl, rfl⟩; (first | rw [HF4.out] | rw [HF2.out]))
        have hHq : hQ b = H := by rw [hQ, hq.val, hq.hH]
        have HFVQ : ∀ fr', fr = fr' → Hid (FV = putQ b q H fr' a n) := fun fr' e => Lib.hid (by rw [HFV.out, if_pos HN.out, hq.val, hHq, e])
        have ha : 0 ≤ a ∧ a < 4294967296 := by
          have h := fitsB_iff.1 HF4.out
          rw [pw4] at h
          exact ⟨h.2.2.1, h.2.2.2⟩
        have hn' : 0 ≤ n ∧ n ≤ 65535 := by
          have h := fitsB_iff.1 HF2.out
          rw [pw2] at h
          exact ⟨h.2.2.1, by omega⟩
        have hn0 := hn'.1
        have hn1 := hn'.2
        have hqle := hq.le
        have h20 := hq.h20
        have hd8 := hq.d8
        have hHh : head4 q = (H : Int) := by have := hq.hH; unfold head4; omega
        have hol : q.opt.length ≤ 1000000 := by have := hq.hH; omega
        have hcap := hA.cap
        have at10 := At4.ofh g10
        obtain ⟨_, _, ed, gd, _, _⟩ := made_shape md
        cases ed
        have gdV := gd.below x1V
        have HOK := Lib.hid (show okS q = true by
          have h := hq.pr
          rw [okS]
          rcases h with h | ⟨h1, h2⟩
          · simp [h]
          · simp [h1, h2])
        clear hHq HFE2 hn' mo md
        go_upto_region 8 with (first
          | ((with_reducible show wpList _ _ _ (Oper.mk _ (Op.load 48 _) _ _ _ _ :: _) _ _); refine wpList_val rfl (run_load_v4 rfl rfl at10 rfl) ?_)
          | (go_at_call 53; refine (csides q P p P' p' w1.heap.size V1 gdV (Nat.le_of_lt hz1) hd8).mono ?_; rintro e w2 ⟨rfl, x2⟩; rw [HOK.out, sdv_eq, sdv_eq])
          | ((with_reducible show wpList _ _ _ (Oper.mk _ (Op.store 99 (Operand.tmp 13) _) _ _ _ _ :: _) _ _); refine sd_store (g := w2.heap.size) (cs := sda (siV true q.proto true)) rfl rfl (two_firstQ w2 _ _) rfl rfl (sd_one _) ?_)
          | ((with_reducible show wpList _ _ _ (Oper.mk _ (Op.store 99 (Operand.tmp 14) _) _ _ _ _ :: _) _ _); refine sd_store (g := w2.heap.size + 1) (cs := sda (siV true q.proto false)) rfl rfl ((setRow_other _ _ _ _ (by omega)).trans (two_heap w2 _ _)) rfl rfl (sd_one _) ?_))
        obtain ⟨x2V, g13, g14⟩ := two_boxes w2 #[.int .i64 0, .int .i64 0] #[.int .i64 0, .int .i64 0] (sda (siV true q.proto true)) (sda (siV true q.proto false)) 99
        generalize (((w2.alloc (.cells #[.int .i64 0, .int .i64 0] 99)).alloc (.cells #[.int .i64 0, .int .i64 0] 99)).setRow w2.heap.size (sda (siV true q.proto true))).setRow (w2.heap.size + 1) (sda (siV true q.proto false)) = V2 at *
        have hz2 := x2.size
        have xV : Below V1.heap.size V1 V2 := x2.trans (x2V.mono x2.size)
        have at10 := at10.below xV hz1
        have hb2 := hb1.trans (xV.mono hb1.size)
        cases fr
        · have HFVF := HFVQ false rfl
          go_upto_region 10 with fail
          have hbU := hb2
          have hzU : w2.heap.size + 1 < V2.heap.size := heap_lt g14
          clear HFVQ g13 x2V
          obtain ⟨U3, hU3⟩ : ∃ U, U = V2 := ⟨_, rfl⟩
          rw [← hU3] at g14 at10 hbU hzU ⊢
          clear hU3
          have k14a : U3.cell? ⟨w2.heap.size + 1, 0, none⟩ = some (.int .i64 ((whQ false : Nat) : Int)) := (Atsd.of_heap g14).ad
          have hwh := wh_le false
          have hpp := ppQ_le q.proto false
          go_upto_region 11 with (first
            | (go_at_call 76; refine (cqchanged b A c (whQ false) 4 a 4 (be4 a) (oaQ b false) U3 hcap hl rfl (put_four (bs := []) ha.1 ha.2) rfl (by omega) (by omega)).mono ?_; rintro e w3 ⟨P1, p1, rfl, m3⟩; obtain ⟨_, _, e3, g3, o3, x3⟩ := made_shape m3; cases e3; clear m3)
            | ((with_reducible show wpList _ _ _ (Oper.mk _ (Op.store _ _ _) _ _ _ _ :: _) _ _); refine ch_store_new (cs := cha ⟨((whQ false : Nat) : Int), oaQ b false, be4 a⟩ (cutA A c (whQ false)) (c - whQ false) P1 p1) rfl rfl rfl rfl (ch_one _ _ _ _ _) ?_))
          have yA : Below w3.heap.size w3 (w3.alloc (.cells (cha ⟨((whQ false : Nat) : Int), oaQ b false, be4 a⟩ (cutA A c (whQ false)) (c - whQ false) P1 p1) 126)) := (Below.refl _ _).alloc (Nat.le_refl _) _
          have g16 := World.alloc_heap_new w3 (.cells (cha ⟨((whQ false : Nat) : Int), oaQ b false, be4 a⟩ (cutA A c (whQ false)) (c - whQ false) P1 p1) 126)
          generalize w3.alloc (.cells (cha ⟨((whQ false : Nat) : Int), oaQ b false, be4 a⟩ (cutA A c (whQ false)) (c - whQ false) P1 p1) 126) = V3 at *
          have x3V := x3.trans (yA.mono x3.size)
          have hb3 := hbU.trans (x3V.mono hbU.size)
          have hB3 := Nat.le_trans hB hb3.size
          have hA3 := hA.below (hb3.mono hB)
          have h16 := heap_lt g16
          have hzU3 := x3V.size
          have at10 := at10.below x3V (by omega)
          have h10 : w1.heap.size < V3.heap.size := by omega
          obtain ⟨xa, ea, a16, hoa⟩ : ∃ x : Xc, x.q = ⟨((whQ false : Nat) : Int), oaQ b false, be4 a⟩ ∧ V3.rangeAt w3.heap.size 0 (clX x) ∧ XcOk V3 V3.heap.size x :=
            ⟨⟨⟨((whQ false : Nat) : Int), oaQ b false, be4 a⟩, cutA A c (whQ false), c - whQ false, P1, p1⟩, rfl, Atch.of_heap g16, (hA3.mid _ 4 (by omega)).more hB3, (g3.below yA).more yA.size⟩
          have EA := Lib.hid ea
          clear ea
          have k14b : V3.cell? ⟨w2.heap.size + 1, 1, none⟩ = some (.int .i64 ((ppQ q.proto false : Nat) : Int)) := (x3V.cell (p := ⟨w2.heap.size + 1, 1, none⟩) (heap_lt g14)).trans (Atsd.of_heap g14).po
          have K14 : ∀ V : World, Below V3.heap.size V3 V → V.cell? ⟨w2.heap.size + 1, 1, none⟩ = some (.int .i64 ((ppQ q.proto false : Nat) : Int)) := fun V h => (h.cell (p := ⟨w2.heap.size + 1, 1, none⟩) (Nat.lt_of_lt_of_le (heap_lt g14) hzU3)).trans k14b
          have HADD := Lib.hid (show IntKind.i64.wrap ((H : Int) + ((ppQ q.proto false : Nat) : Int)) = ((H + ppQ q.proto false : Nat) : Int) by rw [IntWalk.i64_in _ (by omega)]; simp)
          clear g16 yA x3V k14a g3 o3 x3 k14b
          refine wp_region_held_drew (S := fun w' => Below V3.heap.size V3 w') (by kernel_rfl) (Below.refl _ V3).drew (fun hS => ?_)
          generalize hX0 : V3.drew = X0 at *
          clear hX0
          refine held_pure (i := 0) (oi := ⟨some 48, _, _, _, _, _⟩) rfl (by kernel_rfl) (by kernel_rfl) (by kernel_rfl) (fun _ _ _ h => h) (by rfl) (v := ?_) (fun w hSw => ?_) hS (fun hS => ?_)
          rotate_left
          · go_simp; try with_reducible rfl
          try go_frame
          refine held_pure (i := 1) (oi := ⟨some 49, _, _, _, _, _⟩) rfl (by kernel_rfl) (by kernel_rfl) (by kernel_rfl) (fun _ _ _ h => h) (by rfl) (fun w hSw => run_load_v4 rfl rfl (at10.below hSw h10) rfl) hS (fun hS => ?_)
          try go_frame
          refine held_pure (i := 3) (oi := ⟨some 51, _, _, _, _, _⟩) rfl (by kernel_rfl) (by kernel_rfl) (by kernel_rfl) (fun _ _ _ h => h) (by rfl) (v := ?_) (fun w hSw => ?_) hS (fun hS => ?_)
          rotate_left
          · go_simp; try with_reducible rfl
          try go_frame
          refine held_pure (i := 4) (oi := ⟨some 52, _, _, _, _, _⟩) rfl (by kernel_rfl) (by kernel_rfl) (by kernel_rfl) (fun _ _ _ h => h) (by rfl) (fun w hSw => run_load_int rfl rfl (K14 _ hSw)) hS (fun hS => ?_)
          try go_frame
          refine held_pure (i := 6) (oi := ⟨some 54, _, _, _, _, _⟩) rfl (by kernel_rfl) (by kernel_rfl) (by kernel_rfl) (fun _ _ _ h => h) (by rfl) (v := ?_) (fun w hSw => ?_) hS (fun hS => ?_)
          rotate_left
          · go_simp; try with_reducible rfl
          try go_frame
          refine wpAnyH_ready (rs := [2, 8]) (by kernel_rfl) (by simp) (AllReadyH.cons (o := ⟨some 50, _, _, _, _, _⟩) rfl (fun K hK => ?_) (AllReadyH.cons (o := ⟨some 17, _, _, _, _, _⟩) rfl (fun K hK => ?_) AllReadyH.nil))
          · rw [if_pos (by rfl)]
            go_simp
            refine (c4head q P p P' p' _ hol).mono ?_
            rintro e y2 ⟨rfl, xh2⟩
            rw [hHh]
            show K _ _
            refine hK.out _ _ (below_step hS xh2) (fun hS => ?_)
            clear hK K xh2
            try go_frame
            refine held_pure (i := 5) (oi := ⟨some 53, _, _, _, _, _⟩) rfl (by kernel_rfl) (by kernel_rfl) (by kernel_rfl) (fun _ _ _ h => h) (by rfl) (v := .int .i64 ((H + ppQ q.proto false : Nat) : Int)) (fun w hSw => by go_simp; exact HADD.out) hS (fun hS => ?_)
            try go_frame
            refine wpAnyH_ready (rs := [7, 8]) (by kernel_rfl) (by simp) (AllReadyH.cons (o := ⟨some 55, _, _, _, _, _⟩) rfl (fun K hK => ?_) (AllReadyH.cons (o := ⟨some 17, _, _, _, _, _⟩) rfl (fun K hK => ?_) AllReadyH.nil))
            · rw [if_pos (by rfl)]
              go_simp
              have lt7 := hS.size
              refine (cqchanged b A c (H + ppQ q.proto false) 2 n 2 (be2 n) (opQ b q H false) _ hcap hl rfl (put_two (bs := []) hn0 hn1) rfl (by omega) (by omega)).mono ?_
              rintro e y7 ⟨P7, p7, rfl, m7⟩
              obtain ⟨_, _, e7, g7, o7, x7⟩ := made_shape m7
              cases e7
              clear m7
              show K _ _
              refine hK.out _ _ (below_step hS x7) (fun hS => ?_)
              clear hK K
              try go_frame
              refine wpAnyH_ready (rs := [8]) (by kernel_rfl) (by simp) (AllReadyH.cons (o := ⟨some 17, _, _, _, _, _⟩) rfl (fun K hK => ?_) AllReadyH.nil)
              rw [if_pos (by rfl)]
              go_simp
              have g17 := World.alloc_heap_new y7 (.cells #[.int .i64 0, .slice none 0 0, .slice none 0 0] 126)
              have bA : Below V3.heap.size V3 (World.alloc y7 (.cells #[.int .i64 0, .slice none 0 0, .slice none 0 0] 126)) := hS.alloc hS.size _
              have bX : Below y7.heap.size y7 (World.alloc y7 (.cells #[.int .i64 0, .slice none 0 0, .slice none 0 0] 126)) := (Below.refl _ _).alloc (Nat.le_refl _) _
              obtain ⟨z17, hz17⟩ : ∃ z, z = y7.heap.size := ⟨_, rfl⟩
              have l17 : V3.heap.size ≤ z17 := by rw [hz17]; exact hS.size
              rw [← hz17] at g17 ⊢
              have hAF : ∀ cs : Array Value, Arg ((World.alloc y7 (.cells #[.int .i64 0, .slice none 0 0, .slice none 0 0] 126)).setRow z17 cs) ((World.alloc y7 (.cells #[.int .i64 0, .slice none 0 0, .slice none 0 0] 126)).setRow z17 cs).heap.size P7 p7 (be2 n) := fun cs => (g7.below (below_row bX (Nat.le_of_eq hz17.symm))).more (by rw [size_setRow]; exact bX.size)
              generalize World.alloc y7 (.cells #[.int .i64 0, .slice none 0 0, .slice none 0 0] 126) = y8 at *
              clear hz17 bX
              show K _ _
              refine hK.out _ _ bA (fun hS => ?_)
              clear hK K bA
              try go_frame
              refine wpAnyH_ready (rs := [9]) (by kernel_rfl) (by simp) (AllReadyH.cons (o := ⟨none, _, _, _, _, _⟩) rfl (fun K hK => ?_) AllReadyH.nil)
              rw [if_pos (by rfl)]
              obtain ⟨V4, hV4, b9, hgF, gF⟩ := pack9 (cs := cha ⟨((H + ppQ q.proto false : Nat) : Int), opQ b q H false, be2 n⟩ (cutA A c (H + ppQ q.proto false)) (c - (H + ppQ q.proto false)) P7 p7) hS g17 hAF l17
              refine wp_store_row 126 _ _ rfl z17 (cha ⟨((H + ppQ q.proto false : Nat) : Int), opQ b q H false, be2 n⟩ (cutA A c (H + ppQ q.proto false)) (c - (H + ppQ q.proto false)) P7 p7) rfl rfl 126 _ g17 (by kernel_rfl) rfl (ch_one _ _ _ _ _) ?_
              rw [← hV4]
              refine hK.out _ _ b9 (fun hS => ?_)
              clear hK K hAF b9 hV4 g17
              try go_frame
              refine wpAnyH_done (by kernel_rfl) ?_ _
              go_wp2_with fail
              have hz34 := hS.size
              obtain ⟨xn, en, a17, hon⟩ : ∃ x : Xc, x.q = ⟨((H + ppQ q.proto false : Nat) : Int), opQ b q H false, be2 n⟩ ∧ V4.rangeAt z17 0 (clX x) ∧ XcOk V4 V4.heap.size x :=
                ⟨⟨⟨((H + ppQ q.proto false : Nat) : Int), opQ b q H false, be2 n⟩, cutA A c (H + ppQ q.proto false), c - (H + ppQ q.proto false), P7, p7⟩, rfl, Atch.of_heap hgF, ((hA3.below (hS.mono hB3)).mid _ 2 (by omega)).more (Nat.le_trans hB3 hz34), gF⟩
              have hzl17 := heap_lt hgF
              have a16 := range_below a16 h16 hS
              have at10 := at10.below hS h10
              have hoa := (hoa.below hS).more hz34
              have hA4 := hA3.below (hS.mono hB3)
              have hB4 := Nat.le_trans hB3 hz34
              have hb4 := hb3.trans (hS.mono hb3.size)
              have h16 := Nat.lt_of_lt_of_le h16 hz34
              have h10 := Nat.lt_of_lt_of_le h10 hz34
              have EN := Lib.hid en
              clear hgF gF hS en
              obtain ⟨O10, hO10⟩ : ∃ l, l = (b.drop 10).take 2 := ⟨_, rfl⟩
              have HO10 := Lib.hid hO10
              have HHS := Lib.hid (show chg (n2 b 10) (oldsX [xa]) (nowsX [xa]) = hsQ b false a by simp [oldsX, nowsX, EA.out, hsQ])
              have lensA : xa.q.old.length ≤ 10 ∧ xa.q.now.length ≤ 10 := by rw [EA.out]; exact ⟨by simp [oaQ]; omega, by show (be4 a).length ≤ 10; rw [be4_len]; omega⟩
              clear hO10
              refine wp_region_held_drew (S := fun w' => Below V4.heap.size V4 w') (by kernel_rfl) (Below.refl _ V4).drew (fun hS => ?_)
              generalize hX1 : V4.drew = X1 at *
              clear hX1
              refine held_pure (i := 0) (oi := ⟨some 56, _, _, _, _, _⟩) rfl (by kernel_rfl) (by kernel_rfl) (by kernel_rfl) (fun _ _ _ h => h) (by rfl) (v := ?_) (fun w hSw => ?_) hS (fun hS => ?_)
              rotate_left
              · go_simp; try with_reducible rfl
              try go_frame
              refine held_pure (i := 1) (oi := ⟨some 57, _, _, _, _, _⟩) rfl (by kernel_rfl) (by kernel_rfl) (by kernel_rfl) (fun _ _ _ h => h) (by rfl) (fun w hSw => run_load_cx rfl rfl (range_below a16 (by omega) hSw)) hS (fun hS => ?_)
              try go_frame
              refine held_pure (i := 2) (oi := ⟨some 58, _, _, _, _, _⟩) rfl (by kernel_rfl) (by kernel_rfl) (by kernel_rfl) (fun _ _ _ h => h) (by rfl) (fun w hSw => run_load_cx rfl rfl (range_below a17 (by omega) hSw)) hS (fun hS => ?_)
              try go_frame
              refine held_pure (i := 3) (oi := ⟨some 59, _, _, _, _, _⟩) rfl (by kernel_rfl) (by kernel_rfl) (by kernel_rfl) (fun _ _ _ h => h) (by rfl) (v := ?_) (fun w hSw => ?_) hS (fun hS => ?_)
              rotate_left
              · go_simp; try with_reducible rfl
              try go_frame
              refine held_pure (i := 4) (oi := ⟨some 60, _, _, _, _, _⟩) rfl (by kernel_rfl) (by kernel_rfl) (by kernel_rfl) (fun _ _ _ h => h) (by rfl) (fun w hSw => run_load_cx rfl rfl (range_below a16 (by omega) hSw)) hS (fun hS => ?_)
              try go_frame
              refine held_pure (i := 7) (oi := ⟨some 63, _, _, _, _, _⟩) rfl (by kernel_rfl) (by kernel_rfl) (by kernel_rfl) (fun _ _ _ h => h) (by rfl) (v := ?_) (fun w hSw => ?_) hS (fun hS => ?_)
              rotate_left
              · go_simp; try with_reducible rfl
              try go_frame
              refine held_pure (i := 8) (oi := ⟨some 64, _, _, _, _, _⟩) rfl (by kernel_rfl) (by kernel_rfl) (by kernel_rfl) (fun _ _ _ h => h) (by rfl) (fun w hSw => run_load_v4 rfl rfl (at10.below hSw (by omega)) rfl) hS (fun hS => ?_)
              try go_frame
              refine held_pure (i := 9) (oi := ⟨some 65, _, _, _, _, _⟩) rfl (by kernel_rfl) (by kernel_rfl) (by kernel_rfl) (fun _ _ _ h => h) (by rfl) (fun w hSw => run_load_cx rfl rfl (range_below a16 (by omega) hSw)) hS (fun hS => ?_)
              try go_frame
              refine held_pure (i := 10) (oi := ⟨some 66, _, _, _, _, _⟩) rfl (by kernel_rfl) (by kernel_rfl) (by kernel_rfl) (fun _ _ _ h => h) (by rfl) (fun w hSw => run_load_cx rfl rfl (range_below a17 (by omega) hSw)) hS (fun hS => ?_)
              try go_frame
              refine wpAnyH_ready (rs := [5]) (by kernel_rfl) (by simp) (AllReadyH.cons (o := ⟨some 61, _, _, _, _, _⟩) rfl (fun K hK => ?_) AllReadyH.nil)
              rw [if_pos (by rfl)]
              refine wp_growQ (run_bsX1 (x0 := xa) rfl rfl) ?_
              have b5 : Below X1.heap.size X1 (X1.alloc (.cells ([xa].flatMap clX).toArray 126)) := (Below.refl _ _).alloc (Nat.le_refl _) _
              have r5 := rds_litX X1 [xa]
              have z5 : X1.heap.size < (X1.alloc (.cells ([xa].flatMap clX).toArray 126)).heap.size := by simp
              generalize X1.alloc (.cells ([xa].flatMap clX).toArray 126) = y5 at *
              refine hK.out _ _ (below_step hS b5) (fun hS => ?_)
              clear hK K
              try go_frame
              refine wpAnyH_ready (rs := [6]) (by kernel_rfl) (by simp) (AllReadyH.cons (o := ⟨some 62, _, _, _, _, _⟩) rfl (fun K hK => ?_) AllReadyH.nil)
              rw [if_pos (by rfl)]
              go_simp
              refine (cqsummed b A c B 10 (some ⟨X1.heap.size, 0, none⟩) 1 [xa] y5 (hA4.below (hS.mono hB4)) (Nat.le_trans hB4 hS.size) hl (by omega) (r5.more (by omega)) (fun x hx => by
                obtain rfl : x = xa := by simpa using hx
                exact ⟨(hoa.below hS).more hS.size, lensA⟩) (by simp) (hsQ b false a) HHS.out O10 HO10.out).mono ?_
              rintro e y6 ⟨P6, p6, rfl, m6⟩
              obtain ⟨_, _, e6, g6, o6, x6⟩ := made_shape m6
              cases e6
              clear m6
              show K _ _
              refine hK.out _ _ (below_step hS x6) (fun hS => ?_)
              clear hK K
              try go_frame
              refine wpAnyH_ready (rs := [11]) (by kernel_rfl) (by simp) (AllReadyH.cons (o := ⟨some 67, _, _, _, _, _⟩) rfl (fun K hK => ?_) AllReadyH.nil)
              rw [if_pos (by rfl)]
              go_simp
              have s6 := x6.size
              refine (cqwithin b A c B q H P p P' p' false a n xa xn y6 (hA4.below (hS.mono hB4)) (Nat.le_trans hB4 hS.size) hl hq ((hoa.below hS).more hS.size) ((hon.below hS).more hS.size) (by rw [EA.out]) (by rw [EA.out]) (by rw [EN.out]) (by rw [EN.out])).mono ?_
              rintro e y11 ⟨r, rfl, er, ok11, x11⟩
              show K _ _
              refine hK.out _ _ (below_step hS x11) (fun hS => ?_)
              clear hK K
              try go_frame
              refine wpAnyH_ready (rs := [12]) (by kernel_rfl) (by simp) (AllReadyH.cons (o := ⟨some 68, _, _, _, _, _⟩) rfl (fun K hK => ?_) AllReadyH.nil)
              rw [if_pos (by rfl)]
              refine wp_growQ (run_bsX4 (x0 := xa) (x1 := xn) (x2 := ⟨⟨((10 : Nat) : Int), O10, be2 (hsQ b false a)⟩, cutA A c 10, c - 10, P6, p6⟩) (x3 := r) rfl rfl rfl rfl rfl) ?_
              have b12 : Below y11.heap.size y11 (y11.alloc (.cells ([xa, xn, ⟨⟨((10 : Nat) : Int), O10, be2 (hsQ b false a)⟩, cutA A c 10, c - 10, P6, p6⟩, r].flatMap clX).toArray 126)) := (Below.refl _ _).alloc (Nat.le_refl _) _
              have r12 := rds_litX y11 [xa, xn, ⟨⟨((10 : Nat) : Int), O10, be2 (hsQ b false a)⟩, cutA A c 10, c - 10, P6, p6⟩, r]
              have z12 : y11.heap.size < (y11.alloc (.cells ([xa, xn, ⟨⟨((10 : Nat) : Int), O10, be2 (hsQ b false a)⟩, cutA A c 10, c - 10, P6, p6⟩, r].flatMap clX).toArray 126)).heap.size := by simp
              generalize y11.alloc (.cells ([xa, xn, ⟨⟨((10 : Nat) : Int), O10, be2 (hsQ b false a)⟩, cutA A c 10, c - 10, P6, p6⟩, r].flatMap clX).toArray 126) = y12 at *
              refine hK.out _ _ (below_step hS b12) (fun hS => ?_)
              clear hK K
              try go_frame
              refine wpAnyH_ready (rs := [13]) (by kernel_rfl) (by simp) (AllReadyH.cons (o := ⟨some 69, _, _, _, _, _⟩) rfl (fun K hK => ?_) AllReadyH.nil)
              rw [if_pos (by rfl)]
              go_simp
              obtain ⟨hput, hple⟩ := puts_put hq false a n xa xn ⟨⟨((10 : Nat) : Int), O10, be2 (hsQ b false a)⟩, cutA A c 10, c - 10, P6, p6⟩ r EA.out EN.out rfl rfl er
              have HFVP := Lib.hid (HFVF.out.trans hput.symm)
              clear hput
              have ok6 : XcOk y12 y12.heap.size ⟨⟨((10 : Nat) : Int), O10, be2 (hsQ b false a)⟩, cutA A c 10, c - 10, P6, p6⟩ := by
                have hm := (hA4.below (hS.mono hB4)).mid 10 2 (by omega)
                rw [← HO10.out] at hm
                exact ⟨hm.more (Nat.le_trans hB4 hS.size), ((g6.below x11).below (b12.mono x11.size)).more (Nat.le_trans x11.size b12.size)⟩
              refine (cqput b A c B (some ⟨y11.heap.size, 0, none⟩) 4 [xa, xn, ⟨⟨((10 : Nat) : Int), O10, be2 (hsQ b false a)⟩, cutA A c 10, c - 10, P6, p6⟩, r] y12 (hA4.below (hS.mono hB4)) (Nat.le_trans hB4 hS.size) hl (r12.more (by omega)) (fun x hx => ⟨by
                have hx2 : x = xa ∨ x = xn ∨ x = ⟨⟨((10 : Nat) : Int), O10, be2 (hsQ b false a)⟩, cutA A c 10, c - 10, P6, p6⟩ ∨ x = r := by simpa using hx
                rcases hx2 with rfl | rfl | rfl | rfl
                · exact (hoa.below hS).more hS.size
                · exact (hon.below hS).more hS.size
                · exact ok6
                · exact (ok11.below b12).more b12.size, hple x hx⟩) (by simp)).mono ?_
              rintro e y13 ⟨P13, p13, rfl, m13⟩
              rw [← HFVP.out] at m13
              rw [← HFVP.out]
              have x13 := m13.below
              have hS12 := hS
              show K _ _
              refine hK.out _ _ (below_step hS x13) (fun hS => ?_)
              clear hK K
              try go_frame
              refine held_pure (i := 14) (oi := ⟨some 8, _, _, _, _, _⟩) rfl (by kernel_rfl) (by kernel_rfl) (by kernel_rfl) (fun _ _ _ h => h) (by rfl) (v := ?_) (fun w hSw => ?_) hS (fun hS => ?_)
              rotate_left
              · go_simp; try with_reducible rfl
              try go_frame
              refine held_pure (i := 15) (oi := ⟨some 9, _, _, _, _, _⟩) rfl (by kernel_rfl) (by kernel_rfl) (by kernel_rfl) (fun _ _ _ h => h) (by rfl) (v := ?_) (fun w hSw => ?_) hS (fun hS => ?_)
              rotate_left
              · go_simp; try with_reducible rfl
              try go_frame
              refine wpAnyH_done (by kernel_rfl) ?_ _
              go_wp2_with fail
              go_ret2
              exact ⟨P13, p13, by rw [HN.out]; rfl, m13.after (hb4.trans (hS12.mono hb4.size))⟩
            · rw [if_pos (by rfl)]
              go_simp
              have g17 := World.alloc_heap_new y2 (.cells #[.int .i64 0, .slice none 0 0, .slice none 0 0] 126)
              have bA : Below V3.heap.size V3 (World.alloc y2 (.cells #[.int .i64 0, .slice none 0 0, .slice none 0 0] 126)) := hS.alloc hS.size _
              have bX : Below y2.heap.size y2 (World.alloc y2 (.cells #[.int .i64 0, .slice none 0 0, .slice none 0 0] 126)) := (Below.refl _ _).alloc (Nat.le_refl _) _
              obtain ⟨z17, hz17⟩ : ∃ z, z = y2.heap.size := ⟨_, rfl⟩
              have l17 : V3.heap.size ≤ z17 := by rw [hz17]; exact hS.size
              rw [← hz17] at g17 ⊢
              generalize World.alloc y2 (.cells #[.int .i64 0, .slice none 0 0, .slice none 0 0] 126) = y8 at *
              clear hz17 bX
              show K _ _
              refine hK.out _ _ bA (fun hS => ?_)
              clear hK K bA
              try go_frame
              refine wpAnyH_ready (rs := [7]) (by kernel_rfl) (by simp) (AllReadyH.cons (o := ⟨some 55, _, _, _, _, _⟩) rfl (fun K hK => ?_) AllReadyH.nil)
              rw [if_pos (by rfl)]
              go_simp
              have lt7 := hS.size
              refine (cqchanged b A c (H + ppQ q.proto false) 2 n 2 (be2 n) (opQ b q H false) _ hcap hl rfl (put_two (bs := []) hn0 hn1) rfl (by omega) (by omega)).mono ?_
              rintro e y7 ⟨P7, p7, rfl, m7⟩
              obtain ⟨_, _, e7, g7, o7, x7⟩ := made_shape m7
              cases e7
              clear m7
              have hlt17 := heap_lt g17
              have hAF : ∀ cs : Array Value, Arg (y7.setRow z17 cs) (y7.setRow z17 cs).heap.size P7 p7 (be2 n) := fun cs => Made.arg (own_setRow o7 (g := z17) hlt17)
              have g17 := (x7.block _ hlt17).trans g17
              show K _ _
              refine hK.out _ _ (below_step hS x7) (fun hS => ?_)
              clear hK K
              try go_frame
              refine wpAnyH_ready (rs := [9]) (by kernel_rfl) (by simp) (AllReadyH.cons (o := ⟨none, _, _, _, _, _⟩) rfl (fun K hK => ?_) AllReadyH.nil)
              rw [if_pos (by rfl)]
              obtain ⟨V4, hV4, b9, hgF, gF⟩ := pack9 (cs := cha ⟨((H + ppQ q.proto false : Nat) : Int), opQ b q H false, be2 n⟩ (cutA A c (H + ppQ q.proto false)) (c - (H + ppQ q.proto false)) P7 p7) hS g17 hAF l17
              refine wp_store_row 126 _ _ rfl z17 (cha ⟨((H + ppQ q.proto false : Nat) : Int), opQ b q H false, be2 n⟩ (cutA A c (H + ppQ q.proto false)) (c - (H + ppQ q.proto false)) P7 p7) rfl rfl 126 _ g17 (by kernel_rfl) rfl (ch_one _ _ _ _ _) ?_
              rw [← hV4]
              refine hK.out _ _ b9 (fun hS => ?_)
              clear hK K hAF b9 hV4 g17
              try go_frame
              refine wpAnyH_done (by kernel_rfl) ?_ _
              go_wp2_with fail
              have hz34 := hS.size
              obtain ⟨xn, en, a17, hon⟩ : ∃ x : Xc, x.q = ⟨((H + ppQ q.proto false : Nat) : Int), opQ b q H false, be2 n⟩ ∧ V4.rangeAt z17 0 (clX x) ∧ XcOk V4 V4.heap.size x :=
                ⟨⟨⟨((H + ppQ q.proto false : Nat) : Int), opQ b q H false, be2 n⟩, cutA A c (H + ppQ q.proto false), c - (H + ppQ q.proto false), P7, p7⟩, rfl, Atch.of_heap hgF, ((hA3.below (hS.mono hB3)).mid _ 2 (by omega)).more (Nat.le_trans hB3 hz34), gF⟩
              have hzl17 := heap_lt hgF
              have a16 := range_below a16 h16 hS
              have at10 := at10.below hS h10
              have hoa := (hoa.below hS).more hz34
              have hA4 := hA3.below (hS.mono hB3)
              have hB4 := Nat.le_trans hB3 hz34
              have hb4 := hb3.trans (hS.mono hb3.size)
              have h16 := Nat.lt_of_lt_of_le h16 hz34
              have h10 := Nat.lt_of_lt_of_le h10 hz34
              have EN := Lib.hid en
              clear hgF gF hS en
              obtain ⟨O10, hO10⟩ : ∃ l, l = (b.drop 10).take 2 := ⟨_, rfl⟩
              have HO10 := Lib.hid hO10
              have HHS := Lib.hid (show chg (n2 b 10) (oldsX [xa]) (nowsX [xa]) = hsQ b false a by simp [oldsX, nowsX, EA.out, hsQ])
              have lensA : xa.q.old.length ≤ 10 ∧ xa.q.now.length ≤ 10 := by rw [EA.out]; exact ⟨by simp [oaQ]; omega, by show (be4 a).length ≤ 10; rw [be4_len]; omega⟩
              clear hO10
              refine wp_region_held_drew (S := fun w' => Below V4.heap.size V4 w') (by kernel_rfl) (Below.refl _ V4).drew (fun hS => ?_)
              generalize hX1 : V4.drew = X1 at *
              clear hX1
              refine held_pure (i := 0) (oi := ⟨some 56, _, _, _, _, _⟩) rfl (by kernel_rfl) (by kernel_rfl) (by kernel_rfl) (fun _ _ _ h => h) (by rfl) (v := ?_) (fun w hSw => ?_) hS (fun hS => ?_)
              rotate_left
              · go_simp; try with_reducible rfl
              try go_frame
              refine held_pure (i := 1) (oi := ⟨some 57, _, _, _, _, _⟩) rfl (by kernel_rfl) (by kernel_rfl) (by kernel_rfl) (fun _ _ _ h => h) (by rfl) (fun w hSw => run_load_cx rfl rfl (range_below a16 (by omega) hSw)) hS (fun hS => ?_)
              try go_frame
              refine held_pure (i := 2) (oi := ⟨some 58, _, _, _, _, _⟩) rfl (by kernel_rfl) (by kernel_rfl) (by kernel_rfl) (fun _ _ _ h => h) (by rfl) (fun w hSw => run_load_cx rfl rfl (range_below a17 (by omega) hSw)) hS (fun hS => ?_)
              try go_frame
              refine held_pure (i := 3) (oi := ⟨some 59, _, _, _, _, _⟩) rfl (by kernel_rfl) (by kernel_rfl) (by kernel_rfl) (fun _ _ _ h => h) (by rfl) (v := ?_) (fun w hSw => ?_) hS (fun hS => ?_)
              rotate_left
              · go_simp; try with_reducible rfl
              try go_frame
              refine held_pure (i := 4) (oi := ⟨some 60, _, _, _, _, _⟩) rfl (by kernel_rfl) (by kernel_rfl) (by kernel_rfl) (fun _ _ _ h => h) (by rfl) (fun w hSw => run_load_cx rfl rfl (range_below a16 (by omega) hSw)) hS (fun hS => ?_)
              try go_frame
              refine held_pure (i := 7) (oi := ⟨some 63, _, _, _, _, _⟩) rfl (by kernel_rfl) (by kernel_rfl) (by kernel_rfl) (fun _ _ _ h => h) (by rfl) (v := ?_) (fun w hSw => ?_) hS (fun hS => ?_)
              rotate_left
              · go_simp; try with_reducible rfl
              try go_frame
              refine held_pure (i := 8) (oi := ⟨some 64, _, _, _, _, _⟩) rfl (by kernel_rfl) (by kernel_rfl) (by kernel_rfl) (fun _ _ _ h => h) (by rfl) (fun w hSw => run_load_v4 rfl rfl (at10.below hSw (by omega)) rfl) hS (fun hS => ?_)
              try go_frame
              refine held_pure (i := 9) (oi := ⟨some 65, _, _, _, _, _⟩) rfl (by kernel_rfl) (by kernel_rfl) (by kernel_rfl) (fun _ _ _ h => h) (by rfl) (fun w hSw => run_load_cx rfl rfl (range_below a16 (by omega) hSw)) hS (fun hS => ?_)
              try go_frame
              refine held_pure (i := 10) (oi := ⟨some 66, _, _, _, _, _⟩) rfl (by kernel_rfl) (by kernel_rfl) (by kernel_rfl) (fun _ _ _ h => h) (by rfl) (fun w hSw => run_load_cx rfl rfl (range_below a17 (by omega) hSw)) hS (fun hS => ?_)
              try go_frame
              refine wpAnyH_ready (rs := [5]) (by kernel_rfl) (by simp) (AllReadyH.cons (o := ⟨some 61, _, _, _, _, _⟩) rfl (fun K hK => ?_) AllReadyH.nil)
              rw [if_pos (by rfl)]
              refine wp_growQ (run_bsX1 (x0 := xa) rfl rfl) ?_
              have b5 : Below X1.heap.size X1 (X1.alloc (.cells ([xa].flatMap clX).toArray 126)) := (Below.refl _ _).alloc (Nat.le_refl _) _
              have r5 := rds_litX X1 [xa]
              have z5 : X1.heap.size < (X1.alloc (.cells ([xa].flatMap clX).toArray 126)).heap.size := by simp
              generalize X1.alloc (.cells ([xa].flatMap clX).toArray 126) = y5 at *
              refine hK.out _ _ (below_step hS b5) (fun hS => ?_)
              clear hK K
              try go_frame
              refine wpAnyH_ready (rs := [6]) (by kernel_rfl) (by simp) (AllReadyH.cons (o := ⟨some 62, _, _, _, _, _⟩) rfl (fun K hK => ?_) AllReadyH.nil)
              rw [if_pos (by rfl)]
              go_simp
              refine (cqsummed b A c B 10 (some ⟨X1.heap.size, 0, none⟩) 1 [xa] y5 (hA4.below (hS.mono hB4)) (Nat.le_trans hB4 hS.size) hl (by omega) (r5.more (by omega)) (fun x hx => by
                obtain rfl : x = xa := by simpa using hx
                exact ⟨(hoa.below hS).more hS.size, lensA⟩) (by simp) (hsQ b false a) HHS.out O10 HO10.out).mono ?_
              rintro e y6 ⟨P6, p6, rfl, m6⟩
              obtain ⟨_, _, e6, g6, o6, x6⟩ := made_shape m6
              cases e6
              clear m6
              show K _ _
              refine hK.out _ _ (below_step hS x6) (fun hS => ?_)
              clear hK K
              try go_frame
              refine wpAnyH_ready (rs := [11]) (by kernel_rfl) (by simp) (AllReadyH.cons (o := ⟨some 67, _, _, _, _, _⟩) rfl (fun K hK => ?_) AllReadyH.nil)
              rw [if_pos (by rfl)]
              go_simp
              have s6 := x6.size
              refine (cqwithin b A c B q H P p P' p' false a n xa xn y6 (hA4.below (hS.mono hB4)) (Nat.le_trans hB4 hS.size) hl hq ((hoa.below hS).more hS.size) ((hon.below hS).more hS.size) (by rw [EA.out]) (by rw [EA.out]) (by rw [EN.out]) (by rw [EN.out])).mono ?_
              rintro e y11 ⟨r, rfl, er, ok11, x11⟩
              show K _ _
              refine hK.out _ _ (below_step hS x11) (fun hS => ?_)
              clear hK K
              try go_frame
              refine wpAnyH_ready (rs := [12]) (by kernel_rfl) (by simp) (AllReadyH.cons (o := ⟨some 68, _, _, _, _, _⟩) rfl (fun K hK => ?_) AllReadyH.nil)
              rw [if_pos (by rfl)]
              refine wp_growQ (run_bsX4 (x0 := xa) (x1 := xn) (x2 := ⟨⟨((10 : Nat) : Int), O10, be2 (hsQ b false a)⟩, cutA A c 10, c - 10, P6, p6⟩) (x3 := r) rfl rfl rfl rfl rfl) ?_
              have b12 : Below y11.heap.size y11 (y11.alloc (.cells ([xa, xn, ⟨⟨((10 : Nat) : Int), O10, be2 (hsQ b false a)⟩, cutA A c 10, c - 10, P6, p6⟩, r].flatMap clX).toArray 126)) := (Below.refl _ _).alloc (Nat.le_refl _) _
              have r12 := rds_litX y11 [xa, xn, ⟨⟨((10 : Nat) : Int), O10, be2 (hsQ b false a)⟩, cutA A c 10, c - 10, P6, p6⟩, r]
              have z12 : y11.heap.size < (y11.alloc (.cells ([xa, xn, ⟨⟨((10 : Nat) : Int), O10, be2 (hsQ b false a)⟩, cutA A c 10, c - 10, P6, p6⟩, r].flatMap clX).toArray 126)).heap.size := by simp
              generalize y11.alloc (.cells ([xa, xn, ⟨⟨((10 : Nat) : Int), O10, be2 (hsQ b false a)⟩, cutA A c 10, c - 10, P6, p6⟩, r].flatMap clX).toArray 126) = y12 at *
              refine hK.out _ _ (below_step hS b12) (fun hS => ?_)
              clear hK K
              try go_frame
              refine wpAnyH_ready (rs := [13]) (by kernel_rfl) (by simp) (AllReadyH.cons (o := ⟨some 69, _, _, _, _, _⟩) rfl (fun K hK => ?_) AllReadyH.nil)
              rw [if_pos (by rfl)]
              go_simp
              obtain ⟨hput, hple⟩ := puts_put hq false a n xa xn ⟨⟨((10 : Nat) : Int), O10, be2 (hsQ b false a)⟩, cutA A c 10, c - 10, P6, p6⟩ r EA.out EN.out rfl rfl er
              have HFVP := Lib.hid (HFVF.out.trans hput.symm)
              clear hput
              have ok6 : XcOk y12 y12.heap.size ⟨⟨((10 : Nat) : Int), O10, be2 (hsQ b false a)⟩, cutA A c 10, c - 10, P6, p6⟩ := by
                have hm := (hA4.below (hS.mono hB4)).mid 10 2 (by omega)
                rw [← HO10.out] at hm
                exact ⟨hm.more (Nat.le_trans hB4 hS.size), ((g6.below x11).below (b12.mono x11.size)).more (Nat.le_trans x11.size b12.size)⟩
              refine (cqput b A c B (some ⟨y11.heap.size, 0, none⟩) 4 [xa, xn, ⟨⟨((10 : Nat) : Int), O10, be2 (hsQ b false a)⟩, cutA A c 10, c - 10, P6, p6⟩, r] y12 (hA4.below (hS.mono hB4)) (Nat.le_trans hB4 hS.size) hl (r12.more (by omega)) (fun x hx => ⟨by
                have hx2 : x = xa ∨ x = xn ∨ x = ⟨⟨((10 : Nat) : Int), O10, be2 (hsQ b false a)⟩, cutA A c 10, c - 10, P6, p6⟩ ∨ x = r := by simpa using hx
                rcases hx2 with rfl | rfl | rfl | rfl
                · exact (hoa.below hS).more hS.size
                · exact (hon.below hS).more hS.size
                · exact ok6
                · exact (ok11.below b12).more b12.size, hple x hx⟩) (by simp)).mono ?_
              rintro e y13 ⟨P13, p13, rfl, m13⟩
              rw [← HFVP.out] at m13
              rw [← HFVP.out]
              have x13 := m13.below
              have hS12 := hS
              show K _ _
              refine hK.out _ _ (below_step hS x13) (fun hS => ?_)
              clear hK K
              try go_frame
              refine held_pure (i := 14) (oi := ⟨some 8, _, _, _, _, _⟩) rfl (by kernel_rfl) (by kernel_rfl) (by kernel_rfl) (fun _ _ _ h => h) (by rfl) (v := ?_) (fun w hSw => ?_) hS (fun hS => ?_)
              rotate_left
              · go_simp; try with_reducible rfl
              try go_frame
              refine held_pure (i := 15) (oi := ⟨some 9, _, _, _, _, _⟩) rfl (by kernel_rfl) (by kernel_rfl) (by kernel_rfl) (fun _ _ _ h => h) (by rfl) (v := ?_) (fun w hSw => ?_) hS (fun hS => ?_)
              rotate_left
              · go_simp; try with_reducible rfl
              try go_frame
              refine wpAnyH_done (by kernel_rfl) ?_ _
              go_wp2_with fail
              go_ret2
              exact ⟨P13, p13, by rw [HN.out]; rfl, m13.after (hb4.trans (hS12.mono hb4.size))⟩
          · rw [if_pos (by rfl)]
            go_simp
            have g17 := World.alloc_heap_new X0 (.cells #[.int .i64 0, .slice none 0 0, .slice none 0 0] 126)
            have bA : Below V3.heap.size V3 (World.alloc X0 (.cells #[.int .i64 0, .slice none 0 0, .slice none 0 0] 126)) := hS.alloc hS.size _
            have bX : Below X0.heap.size X0 (World.alloc X0 (.cells #[.int .i64 0, .slice none 0 0, .slice none 0 0] 126)) := (Below.refl _ _).alloc (Nat.le_refl _) _
            obtain ⟨z17, hz17⟩ : ∃ z, z = X0.heap.size := ⟨_, rfl⟩
            have l17 : V3.heap.size ≤ z17 := by rw [hz17]; exact hS.size
            rw [← hz17] at g17 ⊢
            generalize World.alloc X0 (.cells #[.int .i64 0, .slice none 0 0, .slice none 0 0] 126) = y8 at *
            clear hz17 bX
            show K _ _
            refine hK.out _ _ bA (fun hS => ?_)
            clear hK K bA
            try go_frame
            refine wpAnyH_ready (rs := [2]) (by kernel_rfl) (by simp) (AllReadyH.cons (o := ⟨some 50, _, _, _, _, _⟩) rfl (fun K hK => ?_) AllReadyH.nil)
            rw [if_pos (by rfl)]
            go_simp
            refine (c4head q P p P' p' _ hol).mono ?_
            rintro e y2 ⟨rfl, xh2⟩
            rw [hHh]
            have g17 := (xh2.block _ (heap_lt g17)).trans g17
            show K _ _
            refine hK.out _ _ (below_step hS xh2) (fun hS => ?_)
            clear hK K xh2
            try go_frame
            refine held_pure (i := 5) (oi := ⟨some 53, _, _, _, _, _⟩) rfl (by kernel_rfl) (by kernel_rfl) (by kernel_rfl) (fun _ _ _ h => h) (by rfl) (v := .int .i64 ((H + ppQ q.proto false : Nat) : Int)) (fun w hSw => by go_simp; exact HADD.out) hS (fun hS => ?_)
            try go_frame
            refine wpAnyH_ready (rs := [7]) (by kernel_rfl) (by simp) (AllReadyH.cons (o := ⟨some 55, _, _, _, _, _⟩) rfl (fun K hK => ?_) AllReadyH.nil)
            rw [if_pos (by rfl)]
            go_simp
            have lt7 := hS.size
            refine (cqchanged b A c (H + ppQ q.proto false) 2 n 2 (be2 n) (opQ b q H false) _ hcap hl rfl (put_two (bs := []) hn0 hn1) rfl (by omega) (by omega)).mono ?_
            rintro e y7 ⟨P7, p7, rfl, m7⟩
            obtain ⟨_, _, e7, g7, o7, x7⟩ := made_shape m7
            cases e7
            clear m7
            have hlt17 := heap_lt g17
            have hAF : ∀ cs : Array Value, Arg (y7.setRow z17 cs) (y7.setRow z17 cs).heap.size P7 p7 (be2 n) := fun cs => Made.arg (own_setRow o7 (g := z17) hlt17)
            have g17 := (x7.block _ hlt17).trans g17
            show K _ _
            refine hK.out _ _ (below_step hS x7) (fun hS => ?_)
            clear hK K
            try go_frame
            refine wpAnyH_ready (rs := [9]) (by kernel_rfl) (by simp) (AllReadyH.cons (o := ⟨none, _, _, _, _, _⟩) rfl (fun K hK => ?_) AllReadyH.nil)
            rw [if_pos (by rfl)]
            obtain ⟨V4, hV4, b9, hgF, gF⟩ := pack9 (cs := cha ⟨((H + ppQ q.proto false : Nat) : Int), opQ b q H false, be2 n⟩ (cutA A c (H + ppQ q.proto false)) (c - (H + ppQ q.proto false)) P7 p7) hS g17 hAF l17
            refine wp_store_row 126 _ _ rfl z17 (cha ⟨((H + ppQ q.proto false : Nat) : Int), opQ b q H false, be2 n⟩ (cutA A c (H + ppQ q.proto false)) (c - (H + ppQ q.proto false)) P7 p7) rfl rfl 126 _ g17 (by kernel_rfl) rfl (ch_one _ _ _ _ _) ?_
            rw [← hV4]
            refine hK.out _ _ b9 (fun hS => ?_)
            clear hK K hAF b9 hV4 g17
            try go_frame
            refine wpAnyH_done (by kernel_rfl) ?_ _
            go_wp2_with fail
            have hz34 := hS.size
            obtain ⟨xn, en, a17, hon⟩ : ∃ x : Xc, x.q = ⟨((H + ppQ q.proto false : Nat) : Int), opQ b q H false, be2 n⟩ ∧ V4.rangeAt z17 0 (clX x) ∧ XcOk V4 V4.heap.size x :=
              ⟨⟨⟨((H + ppQ q.proto false : Nat) : Int), opQ b q H false, be2 n⟩, cutA A c (H + ppQ q.proto false), c - (H + ppQ q.proto false), P7, p7⟩, rfl, Atch.of_heap hgF, ((hA3.below (hS.mono hB3)).mid _ 2 (by omega)).more (Nat.le_trans hB3 hz34), gF⟩
            have hzl17 := heap_lt hgF
            have a16 := range_below a16 h16 hS
            have at10 := at10.below hS h10
            have hoa := (hoa.below hS).more hz34
            have hA4 := hA3.below (hS.mono hB3)
            have hB4 := Nat.le_trans hB3 hz34
            have hb4 := hb3.trans (hS.mono hb3.size)
            have h16 := Nat.lt_of_lt_of_le h16 hz34
            have h10 := Nat.lt_of_lt_of_le h10 hz34
            have EN := Lib.hid en
            clear hgF gF hS en
            obtain ⟨O10, hO10⟩ : ∃ l, l = (b.drop 10).take 2 := ⟨_, rfl⟩
            have HO10 := Lib.hid hO10
            have HHS := Lib.hid (show chg (n2 b 10) (oldsX [xa]) (nowsX [xa]) = hsQ b false a by simp [oldsX, nowsX, EA.out, hsQ])
            have lensA : xa.q.old.length ≤ 10 ∧ xa.q.now.length ≤ 10 := by rw [EA.out]; exact ⟨by simp [oaQ]; omega, by show (be4 a).length ≤ 10; rw [be4_len]; omega⟩
            clear hO10
            refine wp_region_held_drew (S := fun w' => Below V4.heap.size V4 w') (by kernel_rfl) (Below.refl _ V4).drew (fun hS => ?_)
            generalize hX1 : V4.drew = X1 at *
            clear hX1
            refine held_pure (i := 0) (oi := ⟨some 56, _, _, _, _, _⟩) rfl (by kernel_rfl) (by kernel_rfl) (by kernel_rfl) (fun _ _ _ h => h) (by rfl) (v := ?_) (fun w hSw => ?_) hS (fun hS => ?_)
            rotate_left
            · go_simp; try with_reducible rfl
            try go_frame
            refine held_pure (i := 1) (oi := ⟨some 57, _, _, _, _, _⟩) rfl (by kernel_rfl) (by kernel_rfl) (by kernel_rfl) (fun _ _ _ h => h) (by rfl) (fun w hSw => run_load_cx rfl rfl (range_below a16 (by omega) hSw)) hS (fun hS => ?_)
            try go_frame
            refine held_pure (i := 2) (oi := ⟨some 58, _, _, _, _, _⟩) rfl (by kernel_rfl) (by kernel_rfl) (by kernel_rfl) (fun _ _ _ h => h) (by rfl) (fun w hSw => run_load_cx rfl rfl (range_below a17 (by omega) hSw)) hS (fun hS => ?_)
            try go_frame
            refine held_pure (i := 3) (oi := ⟨some 59, _, _, _, _, _⟩) rfl (by kernel_rfl) (by kernel_rfl) (by kernel_rfl) (fun _ _ _ h => h) (by rfl) (v := ?_) (fun w hSw => ?_) hS (fun hS => ?_)
            rotate_left
            · go_simp; try with_reducible rfl
            try go_frame
            refine held_pure (i := 4) (oi := ⟨some 60, _, _, _, _, _⟩) rfl (by kernel_rfl) (by kernel_rfl) (by kernel_rfl) (fun _ _ _ h => h) (by rfl) (fun w hSw => run_load_cx rfl rfl (range_below a16 (by omega) hSw)) hS (fun hS => ?_)
            try go_frame
            refine held_pure (i := 7) (oi := ⟨some 63, _, _, _, _, _⟩) rfl (by kernel_rfl) (by kernel_rfl) (by kernel_rfl) (fun _ _ _ h => h) (by rfl) (v := ?_) (fun w hSw => ?_) hS (fun hS => ?_)
            rotate_left
            · go_simp; try with_reducible rfl
            try go_frame
            refine held_pure (i := 8) (oi := ⟨some 64, _, _, _, _, _⟩) rfl (by kernel_rfl) (by kernel_rfl) (by kernel_rfl) (fun _ _ _ h => h) (by rfl) (fun w hSw => run_load_v4 rfl rfl (at10.below hSw (by omega)) rfl) hS (fun hS => ?_)
            try go_frame
            refine held_pure (i := 9) (oi := ⟨some 65, _, _, _, _, _⟩) rfl (by kernel_rfl) (by kernel_rfl) (by kernel_rfl) (fun _ _ _ h => h) (by rfl) (fun w hSw => run_load_cx rfl rfl (range_below a16 (by omega) hSw)) hS (fun hS => ?_)
            try go_frame
            refine held_pure (i := 10) (oi := ⟨some 66, _, _, _, _, _⟩) rfl (by kernel_rfl) (by kernel_rfl) (by kernel_rfl) (fun _ _ _ h => h) (by rfl) (fun w hSw => run_load_cx rfl rfl (range_below a17 (by omega) hSw)) hS (fun hS => ?_)
            try go_frame
            refine wpAnyH_ready (rs := [5]) (by kernel_rfl) (by simp) (AllReadyH.cons (o := ⟨some 61, _, _, _, _, _⟩) rfl (fun K hK => ?_) AllReadyH.nil)
            rw [if_pos (by rfl)]
            refine wp_growQ (run_bsX1 (x0 := xa) rfl rfl) ?_
            have b5 : Below X1.heap.size X1 (X1.alloc (.cells ([xa].flatMap clX).toArray 126)) := (Below.refl _ _).alloc (Nat.le_refl _) _
            have r5 := rds_litX X1 [xa]
            have z5 : X1.heap.size < (X1.alloc (.cells ([xa].flatMap clX).toArray 126)).heap.size := by simp
            generalize X1.alloc (.cells ([xa].flatMap clX).toArray 126) = y5 at *
            refine hK.out _ _ (below_step hS b5) (fun hS => ?_)
            clear hK K
            try go_frame
            refine wpAnyH_ready (rs := [6]) (by kernel_rfl) (by simp) (AllReadyH.cons (o := ⟨some 62, _, _, _, _, _⟩) rfl (fun K hK => ?_) AllReadyH.nil)
            rw [if_pos (by rfl)]
            go_simp
            refine (cqsummed b A c B 10 (some ⟨X1.heap.size, 0, none⟩) 1 [xa] y5 (hA4.below (hS.mono hB4)) (Nat.le_trans hB4 hS.size) hl (by omega) (r5.more (by omega)) (fun x hx => by
              obtain rfl : x = xa := by simpa using hx
              exact ⟨(hoa.below hS).more hS.size, lensA⟩) (by simp) (hsQ b false a) HHS.out O10 HO10.out).mono ?_
            rintro e y6 ⟨P6, p6, rfl, m6⟩
            obtain ⟨_, _, e6, g6, o6, x6⟩ := made_shape m6
            cases e6
            clear m6
            show K _ _
            refine hK.out _ _ (below_step hS x6) (fun hS => ?_)
            clear hK K
            try go_frame
            refine wpAnyH_ready (rs := [11]) (by kernel_rfl) (by simp) (AllReadyH.cons (o := ⟨some 67, _, _, _, _, _⟩) rfl (fun K hK => ?_) AllReadyH.nil)
            rw [if_pos (by rfl)]
            go_simp
            have s6 := x6.size
            refine (cqwithin b A c B q H P p P' p' false a n xa xn y6 (hA4.below (hS.mono hB4)) (Nat.le_trans hB4 hS.size) hl hq ((hoa.below hS).more hS.size) ((hon.below hS).more hS.size) (by rw [EA.out]) (by rw [EA.out]) (by rw [EN.out]) (by rw [EN.out])).mono ?_
            rintro e y11 ⟨r, rfl, er, ok11, x11⟩
            show K _ _
            refine hK.out _ _ (below_step hS x11) (fun hS => ?_)
            clear hK K
            try go_frame
            refine wpAnyH_ready (rs := [12]) (by kernel_rfl) (by simp) (AllReadyH.cons (o := ⟨some 68, _, _, _, _, _⟩) rfl (fun K hK => ?_) AllReadyH.nil)
            rw [if_pos (by rfl)]
            refine wp_growQ (run_bsX4 (x0 := xa) (x1 := xn) (x2 := ⟨⟨((10 : Nat) : Int), O10, be2 (hsQ b false a)⟩, cutA A c 10, c - 10, P6, p6⟩) (x3 := r) rfl rfl rfl rfl rfl) ?_
            have b12 : Below y11.heap.size y11 (y11.alloc (.cells ([xa, xn, ⟨⟨((10 : Nat) : Int), O10, be2 (hsQ b false a)⟩, cutA A c 10, c - 10, P6, p6⟩, r].flatMap clX).toArray 126)) := (Below.refl _ _).alloc (Nat.le_refl _) _
            have r12 := rds_litX y11 [xa, xn, ⟨⟨((10 : Nat) : Int), O10, be2 (hsQ b false a)⟩, cutA A c 10, c - 10, P6, p6⟩, r]
            have z12 : y11.heap.size < (y11.alloc (.cells ([xa, xn, ⟨⟨((10 : Nat) : Int), O10, be2 (hsQ b false a)⟩, cutA A c 10, c - 10, P6, p6⟩, r].flatMap clX).toArray 126)).heap.size := by simp
            generalize y11.alloc (.cells ([xa, xn, ⟨⟨((10 : Nat) : Int), O10, be2 (hsQ b false a)⟩, cutA A c 10, c - 10, P6, p6⟩, r].flatMap clX).toArray 126) = y12 at *
            refine hK.out _ _ (below_step hS b12) (fun hS => ?_)
            clear hK K
            try go_frame
            refine wpAnyH_ready (rs := [13]) (by kernel_rfl) (by simp) (AllReadyH.cons (o := ⟨some 69, _, _, _, _, _⟩) rfl (fun K hK => ?_) AllReadyH.nil)
            rw [if_pos (by rfl)]
            go_simp
            obtain ⟨hput, hple⟩ := puts_put hq false a n xa xn ⟨⟨((10 : Nat) : Int), O10, be2 (hsQ b false a)⟩, cutA A c 10, c - 10, P6, p6⟩ r EA.out EN.out rfl rfl er
            have HFVP := Lib.hid (HFVF.out.trans hput.symm)
            clear hput
            have ok6 : XcOk y12 y12.heap.size ⟨⟨((10 : Nat) : Int), O10, be2 (hsQ b false a)⟩, cutA A c 10, c - 10, P6, p6⟩ := by
              have hm := (hA4.below (hS.mono hB4)).mid 10 2 (by omega)
              rw [← HO10.out] at hm
              exact ⟨hm.more (Nat.le_trans hB4 hS.size), ((g6.below x11).below (b12.mono x11.size)).more (Nat.le_trans x11.size b12.size)⟩
            refine (cqput b A c B (some ⟨y11.heap.size, 0, none⟩) 4 [xa, xn, ⟨⟨((10 : Nat) : Int), O10, be2 (hsQ b false a)⟩, cutA A c 10, c - 10, P6, p6⟩, r] y12 (hA4.below (hS.mono hB4)) (Nat.le_trans hB4 hS.size) hl (r12.more (by omega)) (fun x hx => ⟨by
              have hx2 : x = xa ∨ x = xn ∨ x = ⟨⟨((10 : Nat) : Int), O10, be2 (hsQ b false a)⟩, cutA A c 10, c - 10, P6, p6⟩ ∨ x = r := by simpa using hx
              rcases hx2 with rfl | rfl | rfl | rfl
              · exact (hoa.below hS).more hS.size
              · exact (hon.below hS).more hS.size
              · exact ok6
              · exact (ok11.below b12).more b12.size, hple x hx⟩) (by simp)).mono ?_
            rintro e y13 ⟨P13, p13, rfl, m13⟩
            rw [← HFVP.out] at m13
            rw [← HFVP.out]
            have x13 := m13.below
            have hS12 := hS
            show K _ _
            refine hK.out _ _ (below_step hS x13) (fun hS => ?_)
            clear hK K
            try go_frame
            refine held_pure (i := 14) (oi := ⟨some 8, _, _, _, _, _⟩) rfl (by kernel_rfl) (by kernel_rfl) (by kernel_rfl) (fun _ _ _ h => h) (by rfl) (v := ?_) (fun w hSw => ?_) hS (fun hS => ?_)
            rotate_left
            · go_simp; try with_reducible rfl
            try go_frame
            refine held_pure (i := 15) (oi := ⟨some 9, _, _, _, _, _⟩) rfl (by kernel_rfl) (by kernel_rfl) (by kernel_rfl) (fun _ _ _ h => h) (by rfl) (v := ?_) (fun w hSw => ?_) hS (fun hS => ?_)
            rotate_left
            · go_simp; try with_reducible rfl
            try go_frame
            refine wpAnyH_done (by kernel_rfl) ?_ _
            go_wp2_with fail
            go_ret2
            exact ⟨P13, p13, by rw [HN.out]; rfl, m13.after (hb4.trans (hS12.mono hb4.size))⟩
        · have HFVT := HFVQ true rfl
          have k13a : V2.cell? ⟨w2.heap.size, 0, none⟩ = some (.int .i64 (siV true q.proto true).ad) := (Atsd.of_heap g13).ad
          have k13b : V2.cell? ⟨w2.heap.size, 1, none⟩ = some (.int .i64 (siV true q.proto true).po) := (Atsd.of_heap g13).po
          go_upto_region 10 with ((with_reducible show wpList _ _ _ (Oper.mk _ (Op.store 99 (Operand.tmp 14) _) _ _ _ _ :: _) _ _); refine sd_store (g := w2.heap.size + 1) (cs := sda (siV true q.proto true)) rfl rfl g14 rfl rfl (sd_one _) ?_)
          have hzU := heap_lt g14
          have g14 := setRow_heap _ _ _ (sda (siV true q.proto true)) _ _ g14
          have at10 : At4 (V2.setRow (w2.heap.size + 1) (sda (siV true q.proto true))) w1.heap.size q P p P' p' := range_blkQ at10 (setRow_other _ _ _ _ (by omega))
          have hbU : Below w.heap.size w (V2.setRow (w2.heap.size + 1) (sda (siV true q.proto true))) := below_row hb2 (by have := hb1.size; omega)
          have hzU : w2.heap.size + 1 < (V2.setRow (w2.heap.size + 1) (sda (siV true q.proto true))).heap.size := by rw [size_setRow]; exact hzU
          clear k13a k13b HFVQ g13 x2V
          generalize V2.setRow (w2.heap.size + 1) (sda (siV true q.proto true)) = U3 at *
          have k14a : U3.cell? ⟨w2.heap.size + 1, 0, none⟩ = some (.int .i64 ((whQ true : Nat) : Int)) := (Atsd.of_heap g14).ad
          have hwh := wh_le true
          have hpp := ppQ_le q.proto true
          go_upto_region 11 with (first
            | (go_at_call 76; refine (cqchanged b A c (whQ true) 4 a 4 (be4 a) (oaQ b true) U3 hcap hl rfl (put_four (bs := []) ha.1 ha.2) rfl (by omega) (by omega)).mono ?_; rintro e w3 ⟨P1, p1, rfl, m3⟩; obtain ⟨_, _, e3, g3, o3, x3⟩ := made_shape m3; cases e3; clear m3)
            | ((with_reducible show wpList _ _ _ (Oper.mk _ (Op.store _ _ _) _ _ _ _ :: _) _ _); refine ch_store_new (cs := cha ⟨((whQ true : Nat) : Int), oaQ b true, be4 a⟩ (cutA A c (whQ true)) (c - whQ true) P1 p1) rfl rfl rfl rfl (ch_one _ _ _ _ _) ?_))
          have yA : Below w3.heap.size w3 (w3.alloc (.cells (cha ⟨((whQ true : Nat) : Int), oaQ b true, be4 a⟩ (cutA A c (whQ true)) (c - whQ true) P1 p1) 126)) := (Below.refl _ _).alloc (Nat.le_refl _) _
          have g16 := World.alloc_heap_new w3 (.cells (cha ⟨((whQ true : Nat) : Int), oaQ b true, be4 a⟩ (cutA A c (whQ true)) (c - whQ true) P1 p1) 126)
          generalize w3.alloc (.cells (cha ⟨((whQ true : Nat) : Int), oaQ b true, be4 a⟩ (cutA A c (whQ true)) (c - whQ true) P1 p1) 126) = V3 at *
          have x3V := x3.trans (yA.mono x3.size)
          have hb3 := hbU.trans (x3V.mono hbU.size)
          have hB3 := Nat.le_trans hB hb3.size
          have hA3 := hA.below (hb3.mono hB)
          have h16 := heap_lt g16
          have hzU3 := x3V.size
          have at10 := at10.below x3V (by omega)
          have h10 : w1.heap.size < V3.heap.size := by omega
          obtain ⟨xa, ea, a16, hoa⟩ : ∃ x : Xc, x.q = ⟨((whQ true : Nat) : Int), oaQ b true, be4 a⟩ ∧ V3.rangeAt w3.heap.size 0 (clX x) ∧ XcOk V3 V3.heap.size x :=
            ⟨⟨⟨((whQ true : Nat) : Int), oaQ b true, be4 a⟩, cutA A c (whQ true), c - whQ true, P1, p1⟩, rfl, Atch.of_heap g16, (hA3.mid _ 4 (by omega)).more hB3, (g3.below yA).more yA.size⟩
          have EA := Lib.hid ea
          clear ea
          have k14b : V3.cell? ⟨w2.heap.size + 1, 1, none⟩ = some (.int .i64 ((ppQ q.proto true : Nat) : Int)) := (x3V.cell (p := ⟨w2.heap.size + 1, 1, none⟩) (heap_lt g14)).trans (Atsd.of_heap g14).po
          have K14 : ∀ V : World, Below V3.heap.size V3 V → V.cell? ⟨w2.heap.size + 1, 1, none⟩ = some (.int .i64 ((ppQ q.proto true : Nat) : Int)) := fun V h => (h.cell (p := ⟨w2.heap.size + 1, 1, none⟩) (Nat.lt_of_lt_of_le (heap_lt g14) hzU3)).trans k14b
          have HADD := Lib.hid (show IntKind.i64.wrap ((H : Int) + ((ppQ q.proto true : Nat) : Int)) = ((H + ppQ q.proto true : Nat) : Int) by rw [IntWalk.i64_in _ (by omega)]; simp)
          clear g16 yA x3V k14a g3 o3 x3 k14b
          refine wp_region_held_drew (S := fun w' => Below V3.heap.size V3 w') (by kernel_rfl) (Below.refl _ V3).drew (fun hS => ?_)
          generalize hX0 : V3.drew = X0 at *
          clear hX0
          refine held_pure (i := 0) (oi := ⟨some 48, _, _, _, _, _⟩) rfl (by kernel_rfl) (by kernel_rfl) (by kernel_rfl) (fun _ _ _ h => h) (by rfl) (v := ?_) (fun w hSw => ?_) hS (fun hS => ?_)
          rotate_left
          · go_simp; try with_reducible rfl
          try go_frame
          refine held_pure (i := 1) (oi := ⟨some 49, _, _, _, _, _⟩) rfl (by kernel_rfl) (by kernel_rfl) (by kernel_rfl) (fun _ _ _ h => h) (by rfl) (fun w hSw => run_load_v4 rfl rfl (at10.below hSw h10) rfl) hS (fun hS => ?_)
          try go_frame
          refine held_pure (i := 3) (oi := ⟨some 51, _, _, _, _, _⟩) rfl (by kernel_rfl) (by kernel_rfl) (by kernel_rfl) (fun _ _ _ h => h) (by rfl) (v := ?_) (fun w hSw => ?_) hS (fun hS => ?_)
          rotate_left
          · go_simp; try with_reducible rfl
          try go_frame
          refine held_pure (i := 4) (oi := ⟨some 52, _, _, _, _, _⟩) rfl (by kernel_rfl) (by kernel_rfl) (by kernel_rfl) (fun _ _ _ h => h) (by rfl) (fun w hSw => run_load_int rfl rfl (K14 _ hSw)) hS (fun hS => ?_)
          try go_frame
          refine held_pure (i := 6) (oi := ⟨some 54, _, _, _, _, _⟩) rfl (by kernel_rfl) (by kernel_rfl) (by kernel_rfl) (fun _ _ _ h => h) (by rfl) (v := ?_) (fun w hSw => ?_) hS (fun hS => ?_)
          rotate_left
          · go_simp; try with_reducible rfl
          try go_frame
          refine wpAnyH_ready (rs := [2, 8]) (by kernel_rfl) (by simp) (AllReadyH.cons (o := ⟨some 50, _, _, _, _, _⟩) rfl (fun K hK => ?_) (AllReadyH.cons (o := ⟨some 17, _, _, _, _, _⟩) rfl (fun K hK => ?_) AllReadyH.nil))
          · rw [if_pos (by rfl)]
            go_simp
            refine (c4head q P p P' p' _ hol).mono ?_
            rintro e y2 ⟨rfl, xh2⟩
            rw [hHh]
            show K _ _
            refine hK.out _ _ (below_step hS xh2) (fun hS => ?_)
            clear hK K xh2
            try go_frame
            refine held_pure (i := 5) (oi := ⟨some 53, _, _, _, _, _⟩) rfl (by kernel_rfl) (by kernel_rfl) (by kernel_rfl) (fun _ _ _ h => h) (by rfl) (v := .int .i64 ((H + ppQ q.proto true : Nat) : Int)) (fun w hSw => by go_simp; exact HADD.out) hS (fun hS => ?_)
            try go_frame
            refine wpAnyH_ready (rs := [7, 8]) (by kernel_rfl) (by simp) (AllReadyH.cons (o := ⟨some 55, _, _, _, _, _⟩) rfl (fun K hK => ?_) (AllReadyH.cons (o := ⟨some 17, _, _, _, _, _⟩) rfl (fun K hK => ?_) AllReadyH.nil))
            · rw [if_pos (by rfl)]
              go_simp
              have lt7 := hS.size
              refine (cqchanged b A c (H + ppQ q.proto true) 2 n 2 (be2 n) (opQ b q H true) _ hcap hl rfl (put_two (bs := []) hn0 hn1) rfl (by omega) (by omega)).mono ?_
              rintro e y7 ⟨P7, p7, rfl, m7⟩
              obtain ⟨_, _, e7, g7, o7, x7⟩ := made_shape m7
              cases e7
              clear m7
              show K _ _
              refine hK.out _ _ (below_step hS x7) (fun hS => ?_)
              clear hK K
              try go_frame
              refine wpAnyH_ready (rs := [8]) (by kernel_rfl) (by simp) (AllReadyH.cons (o := ⟨some 17, _, _, _, _, _⟩) rfl (fun K hK => ?_) AllReadyH.nil)
              rw [if_pos (by rfl)]
              go_simp
              have g17 := World.alloc_heap_new y7 (.cells #[.int .i64 0, .slice none 0 0, .slice none 0 0] 126)
              have bA : Below V3.heap.size V3 (World.alloc y7 (.cells #[.int .i64 0, .slice none 0 0, .slice none 0 0] 126)) := hS.alloc hS.size _
              have bX : Below y7.heap.size y7 (World.alloc y7 (.cells #[.int .i64 0, .slice none 0 0, .slice none 0 0] 126)) := (Below.refl _ _).alloc (Nat.le_refl _) _
              obtain ⟨z17, hz17⟩ : ∃ z, z = y7.heap.size := ⟨_, rfl⟩
              have l17 : V3.heap.size ≤ z17 := by rw [hz17]; exact hS.size
              rw [← hz17] at g17 ⊢
              have hAF : ∀ cs : Array Value, Arg ((World.alloc y7 (.cells #[.int .i64 0, .slice none 0 0, .slice none 0 0] 126)).setRow z17 cs) ((World.alloc y7 (.cells #[.int .i64 0, .slice none 0 0, .slice none 0 0] 126)).setRow z17 cs).heap.size P7 p7 (be2 n) := fun cs => (g7.below (below_row bX (Nat.le_of_eq hz17.symm))).more (by rw [size_setRow]; exact bX.size)
              generalize World.alloc y7 (.cells #[.int .i64 0, .slice none 0 0, .slice none 0 0] 126) = y8 at *
              clear hz17 bX
              show K _ _
              refine hK.out _ _ bA (fun hS => ?_)
              clear hK K bA
              try go_frame
              refine wpAnyH_ready (rs := [9]) (by kernel_rfl) (by simp) (AllReadyH.cons (o := ⟨none, _, _, _, _, _⟩) rfl (fun K hK => ?_) AllReadyH.nil)
              rw [if_pos (by rfl)]
              obtain ⟨V4, hV4, b9, hgF, gF⟩ := pack9 (cs := cha ⟨((H + ppQ q.proto true : Nat) : Int), opQ b q H true, be2 n⟩ (cutA A c (H + ppQ q.proto true)) (c - (H + ppQ q.proto true)) P7 p7) hS g17 hAF l17
              refine wp_store_row 126 _ _ rfl z17 (cha ⟨((H + ppQ q.proto true : Nat) : Int), opQ b q H true, be2 n⟩ (cutA A c (H + ppQ q.proto true)) (c - (H + ppQ q.proto true)) P7 p7) rfl rfl 126 _ g17 (by kernel_rfl) rfl (ch_one _ _ _ _ _) ?_
              rw [← hV4]
              refine hK.out _ _ b9 (fun hS => ?_)
              clear hK K hAF b9 hV4 g17
              try go_frame
              refine wpAnyH_done (by kernel_rfl) ?_ _
              go_wp2_with fail
              have hz34 := hS.size
              obtain ⟨xn, en, a17, hon⟩ : ∃ x : Xc, x.q = ⟨((H + ppQ q.proto true : Nat) : Int), opQ b q H true, be2 n⟩ ∧ V4.rangeAt z17 0 (clX x) ∧ XcOk V4 V4.heap.size x :=
                ⟨⟨⟨((H + ppQ q.proto true : Nat) : Int), opQ b q H true, be2 n⟩, cutA A c (H + ppQ q.proto true), c - (H + ppQ q.proto true), P7, p7⟩, rfl, Atch.of_heap hgF, ((hA3.below (hS.mono hB3)).mid _ 2 (by omega)).more (Nat.le_trans hB3 hz34), gF⟩
              have hzl17 := heap_lt hgF
              have a16 := range_below a16 h16 hS
              have at10 := at10.below hS h10
              have hoa := (hoa.below hS).more hz34
              have hA4 := hA3.below (hS.mono hB3)
              have hB4 := Nat.le_trans hB3 hz34
              have hb4 := hb3.trans (hS.mono hb3.size)
              have h16 := Nat.lt_of_lt_of_le h16 hz34
              have h10 := Nat.lt_of_lt_of_le h10 hz34
              have EN := Lib.hid en
              clear hgF gF hS en
              obtain ⟨O10, hO10⟩ : ∃ l, l = (b.drop 10).take 2 := ⟨_, rfl⟩
              have HO10 := Lib.hid hO10
              have HHS := Lib.hid (show chg (n2 b 10) (oldsX [xa]) (nowsX [xa]) = hsQ b true a by simp [oldsX, nowsX, EA.out, hsQ])
              have lensA : xa.q.old.length ≤ 10 ∧ xa.q.now.length ≤ 10 := by rw [EA.out]; exact ⟨by simp [oaQ]; omega, by show (be4 a).length ≤ 10; rw [be4_len]; omega⟩
              clear hO10
              refine wp_region_held_drew (S := fun w' => Below V4.heap.size V4 w') (by kernel_rfl) (Below.refl _ V4).drew (fun hS => ?_)
              generalize hX1 : V4.drew = X1 at *
              clear hX1
              refine held_pure (i := 0) (oi := ⟨some 56, _, _, _, _, _⟩) rfl (by kernel_rfl) (by kernel_rfl) (by kernel_rfl) (fun _ _ _ h => h) (by rfl) (v := ?_) (fun w hSw => ?_) hS (fun hS => ?_)
              rotate_left
              · go_simp; try with_reducible rfl
              try go_frame
              refine held_pure (i := 1) (oi := ⟨some 57, _, _, _, _, _⟩) rfl (by kernel_rfl) (by kernel_rfl) (by kernel_rfl) (fun _ _ _ h => h) (by rfl) (fun w hSw => run_load_cx rfl rfl (range_below a16 (by omega) hSw)) hS (fun hS => ?_)
              try go_frame
              refine held_pure (i := 2) (oi := ⟨some 58, _, _, _, _, _⟩) rfl (by kernel_rfl) (by kernel_rfl) (by kernel_rfl) (fun _ _ _ h => h) (by rfl) (fun w hSw => run_load_cx rfl rfl (range_below a17 (by omega) hSw)) hS (fun hS => ?_)
              try go_frame
              refine held_pure (i := 3) (oi := ⟨some 59, _, _, _, _, _⟩) rfl (by kernel_rfl) (by kernel_rfl) (by kernel_rfl) (fun _ _ _ h => h) (by rfl) (v := ?_) (fun w hSw => ?_) hS (fun hS => ?_)
              rotate_left
              · go_simp; try with_reducible rfl
              try go_frame
              refine held_pure (i := 4) (oi := ⟨some 60, _, _, _, _, _⟩) rfl (by kernel_rfl) (by kernel_rfl) (by kernel_rfl) (fun _ _ _ h => h) (by rfl) (fun w hSw => run_load_cx rfl rfl (range_below a16 (by omega) hSw)) hS (fun hS => ?_)
              try go_frame
              refine held_pure (i := 7) (oi := ⟨some 63, _, _, _, _, _⟩) rfl (by kernel_rfl) (by kernel_rfl) (by kernel_rfl) (fun _ _ _ h => h) (by rfl) (v := ?_) (fun w hSw => ?_) hS (fun hS => ?_)
              rotate_left
              · go_simp; try with_reducible rfl
              try go_frame
              refine held_pure (i := 8) (oi := ⟨some 64, _, _, _, _, _⟩) rfl (by kernel_rfl) (by kernel_rfl) (by kernel_rfl) (fun _ _ _ h => h) (by rfl) (fun w hSw => run_load_v4 rfl rfl (at10.below hSw (by omega)) rfl) hS (fun hS => ?_)
              try go_frame
              refine held_pure (i := 9) (oi := ⟨some 65, _, _, _, _, _⟩) rfl (by kernel_rfl) (by kernel_rfl) (by kernel_rfl) (fun _ _ _ h => h) (by rfl) (fun w hSw => run_load_cx rfl rfl (range_below a16 (by omega) hSw)) hS (fun hS => ?_)
              try go_frame
              refine held_pure (i := 10) (oi := ⟨some 66, _, _, _, _, _⟩) rfl (by kernel_rfl) (by kernel_rfl) (by kernel_rfl) (fun _ _ _ h => h) (by rfl) (fun w hSw => run_load_cx rfl rfl (range_below a17 (by omega) hSw)) hS (fun hS => ?_)
              try go_frame
              refine wpAnyH_ready (rs := [5]) (by kernel_rfl) (by simp) (AllReadyH.cons (o := ⟨some 61, _, _, _, _, _⟩) rfl (fun K hK => ?_) AllReadyH.nil)
              rw [if_pos (by rfl)]
              refine wp_growQ (run_bsX1 (x0 := xa) rfl rfl) ?_
              have b5 : Below X1.heap.size X1 (X1.alloc (.cells ([xa].flatMap clX).toArray 126)) := (Below.refl _ _).alloc (Nat.le_refl _) _
              have r5 := rds_litX X1 [xa]
              have z5 : X1.heap.size < (X1.alloc (.cells ([xa].flatMap clX).toArray 126)).heap.size := by simp
              generalize X1.alloc (.cells ([xa].flatMap clX).toArray 126) = y5 at *
              refine hK.out _ _ (below_step hS b5) (fun hS => ?_)
              clear hK K
              try go_frame
              refine wpAnyH_ready (rs := [6]) (by kernel_rfl) (by simp) (AllReadyH.cons (o := ⟨some 62, _, _, _, _, _⟩) rfl (fun K hK => ?_) AllReadyH.nil)
              rw [if_pos (by rfl)]
              go_simp
              refine (cqsummed b A c B 10 (some ⟨X1.heap.size, 0, none⟩) 1 [xa] y5 (hA4.below (hS.mono hB4)) (Nat.le_trans hB4 hS.size) hl (by omega) (r5.more (by omega)) (fun x hx => by
                obtain rfl : x = xa := by simpa using hx
                exact ⟨(hoa.below hS).more hS.size, lensA⟩) (by simp) (hsQ b true a) HHS.out O10 HO10.out).mono ?_
              rintro e y6 ⟨P6, p6, rfl, m6⟩
              obtain ⟨_, _, e6, g6, o6, x6⟩ := made_shape m6
              cases e6
              clear m6
              show K _ _
              refine hK.out _ _ (below_step hS x6) (fun hS => ?_)
              clear hK K
              try go_frame
              refine wpAnyH_ready (rs := [11]) (by kernel_rfl) (by simp) (AllReadyH.cons (o := ⟨some 67, _, _, _, _, _⟩) rfl (fun K hK => ?_) AllReadyH.nil)
              rw [if_pos (by rfl)]
              go_simp
              have s6 := x6.size
              refine (cqwithin b A c B q H P p P' p' true a n xa xn y6 (hA4.below (hS.mono hB4)) (Nat.le_trans hB4 hS.size) hl hq ((hoa.below hS).more hS.size) ((hon.below hS).more hS.size) (by rw [EA.out]) (by rw [EA.out]) (by rw [EN.out]) (by rw [EN.out])).mono ?_
              rintro e y11 ⟨r, rfl, er, ok11, x11⟩
              show K _ _
              refine hK.out _ _ (below_step hS x11) (fun hS => ?_)
              clear hK K
              try go_frame
              refine wpAnyH_ready (rs := [12]) (by kernel_rfl) (by simp) (AllReadyH.cons (o := ⟨some 68, _, _, _, _, _⟩) rfl (fun K hK => ?_) AllReadyH.nil)
              rw [if_pos (by rfl)]
              refine wp_growQ (run_bsX4 (x0 := xa) (x1 := xn) (x2 := ⟨⟨((10 : Nat) : Int), O10, be2 (hsQ b true a)⟩, cutA A c 10, c - 10, P6, p6⟩) (x3 := r) rfl rfl rfl rfl rfl) ?_
              have b12 : Below y11.heap.size y11 (y11.alloc (.cells ([xa, xn, ⟨⟨((10 : Nat) : Int), O10, be2 (hsQ b true a)⟩, cutA A c 10, c - 10, P6, p6⟩, r].flatMap clX).toArray 126)) := (Below.refl _ _).alloc (Nat.le_refl _) _
              have r12 := rds_litX y11 [xa, xn, ⟨⟨((10 : Nat) : Int), O10, be2 (hsQ b true a)⟩, cutA A c 10, c - 10, P6, p6⟩, r]
              have z12 : y11.heap.size < (y11.alloc (.cells ([xa, xn, ⟨⟨((10 : Nat) : Int), O10, be2 (hsQ b true a)⟩, cutA A c 10, c - 10, P6, p6⟩, r].flatMap clX).toArray 126)).heap.size := by simp
              generalize y11.alloc (.cells ([xa, xn, ⟨⟨((10 : Nat) : Int), O10, be2 (hsQ b true a)⟩, cutA A c 10, c - 10, P6, p6⟩, r].flatMap clX).toArray 126) = y12 at *
              refine hK.out _ _ (below_step hS b12) (fun hS => ?_)
              clear hK K
              try go_frame
              refine wpAnyH_ready (rs := [13]) (by kernel_rfl) (by simp) (AllReadyH.cons (o := ⟨some 69, _, _, _, _, _⟩) rfl (fun K hK => ?_) AllReadyH.nil)
              rw [if_pos (by rfl)]
              go_simp
              obtain ⟨hput, hple⟩ := puts_put hq true a n xa xn ⟨⟨((10 : Nat) : Int), O10, be2 (hsQ b true a)⟩, cutA A c 10, c - 10, P6, p6⟩ r EA.out EN.out rfl rfl er
              have HFVP := Lib.hid (HFVT.out.trans hput.symm)
              clear hput
              have ok6 : XcOk y12 y12.heap.size ⟨⟨((10 : Nat) : Int), O10, be2 (hsQ b true a)⟩, cutA A c 10, c - 10, P6, p6⟩ := by
                have hm := (hA4.below (hS.mono hB4)).mid 10 2 (by omega)
                rw [← HO10.out] at hm
                exact ⟨hm.more (Nat.le_trans hB4 hS.size), ((g6.below x11).below (b12.mono x11.size)).more (Nat.le_trans x11.size b12.size)⟩
              refine (cqput b A c B (some ⟨y11.heap.size, 0, none⟩) 4 [xa, xn, ⟨⟨((10 : Nat) : Int), O10, be2 (hsQ b true a)⟩, cutA A c 10, c - 10, P6, p6⟩, r] y12 (hA4.below (hS.mono hB4)) (Nat.le_trans hB4 hS.size) hl (r12.more (by omega)) (fun x hx => ⟨by
                have hx2 : x = xa ∨ x = xn ∨ x = ⟨⟨((10 : Nat) : Int), O10, be2 (hsQ b true a)⟩, cutA A c 10, c - 10, P6, p6⟩ ∨ x = r := by simpa using hx
                rcases hx2 with rfl | rfl | rfl | rfl
                · exact (hoa.below hS).more hS.size
                · exact (hon.below hS).more hS.size
                · exact ok6
                · exact (ok11.below b12).more b12.size, hple x hx⟩) (by simp)).mono ?_
              rintro e y13 ⟨P13, p13, rfl, m13⟩
              rw [← HFVP.out] at m13
              rw [← HFVP.out]
              have x13 := m13.below
              have hS12 := hS
              show K _ _
              refine hK.out _ _ (below_step hS x13) (fun hS => ?_)
              clear hK K
              try go_frame
              refine held_pure (i := 14) (oi := ⟨some 8, _, _, _, _, _⟩) rfl (by kernel_rfl) (by kernel_rfl) (by kernel_rfl) (fun _ _ _ h => h) (by rfl) (v := ?_) (fun w hSw => ?_) hS (fun hS => ?_)
              rotate_left
              · go_simp; try with_reducible rfl
              try go_frame
              refine held_pure (i := 15) (oi := ⟨some 9, _, _, _, _, _⟩) rfl (by kernel_rfl) (by kernel_rfl) (by kernel_rfl) (fun _ _ _ h => h) (by rfl) (v := ?_) (fun w hSw => ?_) hS (fun hS => ?_)
              rotate_left
              · go_simp; try with_reducible rfl
              try go_frame
              refine wpAnyH_done (by kernel_rfl) ?_ _
              go_wp2_with fail
              go_ret2
              exact ⟨P13, p13, by rw [HN.out]; rfl, m13.after (hb4.trans (hS12.mono hb4.size))⟩
            · rw [if_pos (by rfl)]
              go_simp
              have g17 := World.alloc_heap_new y2 (.cells #[.int .i64 0, .slice none 0 0, .slice none 0 0] 126)
              have bA : Below V3.heap.size V3 (World.alloc y2 (.cells #[.int .i64 0, .slice none 0 0, .slice none 0 0] 126)) := hS.alloc hS.size _
              have bX : Below y2.heap.size y2 (World.alloc y2 (.cells #[.int .i64 0, .slice none 0 0, .slice none 0 0] 126)) := (Below.refl _ _).alloc (Nat.le_refl _) _
              obtain ⟨z17, hz17⟩ : ∃ z, z = y2.heap.size := ⟨_, rfl⟩
              have l17 : V3.heap.size ≤ z17 := by rw [hz17]; exact hS.size
              rw [← hz17] at g17 ⊢
              generalize World.alloc y2 (.cells #[.int .i64 0, .slice none 0 0, .slice none 0 0] 126) = y8 at *
              clear hz17 bX
              show K _ _
              refine hK.out _ _ bA (fun hS => ?_)
              clear hK K bA
              try go_frame
              refine wpAnyH_ready (rs := [7]) (by kernel_rfl) (by simp) (AllReadyH.cons (o := ⟨some 55, _, _, _, _, _⟩) rfl (fun K hK => ?_) AllReadyH.nil)
              rw [if_pos (by rfl)]
              go_simp
              have lt7 := hS.size
              refine (cqchanged b A c (H + ppQ q.proto true) 2 n 2 (be2 n) (opQ b q H true) _ hcap hl rfl (put_two (bs := []) hn0 hn1) rfl (by omega) (by omega)).mono ?_
              rintro e y7 ⟨P7, p7, rfl, m7⟩
              obtain ⟨_, _, e7, g7, o7, x7⟩ := made_shape m7
              cases e7
              clear m7
              have hlt17 := heap_lt g17
              have hAF : ∀ cs : Array Value, Arg (y7.setRow z17 cs) (y7.setRow z17 cs).heap.size P7 p7 (be2 n) := fun cs => Made.arg (own_setRow o7 (g := z17) hlt17)
              have g17 := (x7.block _ hlt17).trans g17
              show K _ _
              refine hK.out _ _ (below_step hS x7) (fun hS => ?_)
              clear hK K
              try go_frame
              refine wpAnyH_ready (rs := [9]) (by kernel_rfl) (by simp) (AllReadyH.cons (o := ⟨none, _, _, _, _, _⟩) rfl (fun K hK => ?_) AllReadyH.nil)
              rw [if_pos (by rfl)]
              obtain ⟨V4, hV4, b9, hgF, gF⟩ := pack9 (cs := cha ⟨((H + ppQ q.proto true : Nat) : Int), opQ b q H true, be2 n⟩ (cutA A c (H + ppQ q.proto true)) (c - (H + ppQ q.proto true)) P7 p7) hS g17 hAF l17
              refine wp_store_row 126 _ _ rfl z17 (cha ⟨((H + ppQ q.proto true : Nat) : Int), opQ b q H true, be2 n⟩ (cutA A c (H + ppQ q.proto true)) (c - (H + ppQ q.proto true)) P7 p7) rfl rfl 126 _ g17 (by kernel_rfl) rfl (ch_one _ _ _ _ _) ?_
              rw [← hV4]
              refine hK.out _ _ b9 (fun hS => ?_)
              clear hK K hAF b9 hV4 g17
              try go_frame
              refine wpAnyH_done (by kernel_rfl) ?_ _
              go_wp2_with fail
              have hz34 := hS.size
              obtain ⟨xn, en, a17, hon⟩ : ∃ x : Xc, x.q = ⟨((H + ppQ q.proto true : Nat) : Int), opQ b q H true, be2 n⟩ ∧ V4.rangeAt z17 0 (clX x) ∧ XcOk V4 V4.heap.size x :=
                ⟨⟨⟨((H + ppQ q.proto true : Nat) : Int), opQ b q H true, be2 n⟩, cutA A c (H + ppQ q.proto true), c - (H + ppQ q.proto true), P7, p7⟩, rfl, Atch.of_heap hgF, ((hA3.below (hS.mono hB3)).mid _ 2 (by omega)).more (Nat.le_trans hB3 hz34), gF⟩
              have hzl17 := heap_lt hgF
              have a16 := range_below a16 h16 hS
              have at10 := at10.below hS h10
              have hoa := (hoa.below hS).more hz34
              have hA4 := hA3.below (hS.mono hB3)
              have hB4 := Nat.le_trans hB3 hz34
              have hb4 := hb3.trans (hS.mono hb3.size)
              have h16 := Nat.lt_of_lt_of_le h16 hz34
              have h10 := Nat.lt_of_lt_of_le h10 hz34
              have EN := Lib.hid en
              clear hgF gF hS en
              obtain ⟨O10, hO10⟩ : ∃ l, l = (b.drop 10).take 2 := ⟨_, rfl⟩
              have HO10 := Lib.hid hO10
              have HHS := Lib.hid (show chg (n2 b 10) (oldsX [xa]) (nowsX [xa]) = hsQ b true a by simp [oldsX, nowsX, EA.out, hsQ])
              have lensA : xa.q.old.length ≤ 10 ∧ xa.q.now.length ≤ 10 := by rw [EA.out]; exact ⟨by simp [oaQ]; omega, by show (be4 a).length ≤ 10; rw [be4_len]; omega⟩
              clear hO10
              refine wp_region_held_drew (S := fun w' => Below V4.heap.size V4 w') (by kernel_rfl) (Below.refl _ V4).drew (fun hS => ?_)
              generalize hX1 : V4.drew = X1 at *
              clear hX1
              refine held_pure (i := 0) (oi := ⟨some 56, _, _, _, _, _⟩) rfl (by kernel_rfl) (by kernel_rfl) (by kernel_rfl) (fun _ _ _ h => h) (by rfl) (v := ?_) (fun w hSw => ?_) hS (fun hS => ?_)
              rotate_left
              · go_simp; try with_reducible rfl
              try go_frame
              refine held_pure (i := 1) (oi := ⟨some 57, _, _, _, _, _⟩) rfl (by kernel_rfl) (by kernel_rfl) (by kernel_rfl) (fun _ _ _ h => h) (by rfl) (fun w hSw => run_load_cx rfl rfl (range_below a16 (by omega) hSw)) hS (fun hS => ?_)
              try go_frame
              refine held_pure (i := 2) (oi := ⟨some 58, _, _, _, _, _⟩) rfl (by kernel_rfl) (by kernel_rfl) (by kernel_rfl) (fun _ _ _ h => h) (by rfl) (fun w hSw => run_load_cx rfl rfl (range_below a17 (by omega) hSw)) hS (fun hS => ?_)
              try go_frame
              refine held_pure (i := 3) (oi := ⟨some 59, _, _, _, _, _⟩) rfl (by kernel_rfl) (by kernel_rfl) (by kernel_rfl) (fun _ _ _ h => h) (by rfl) (v := ?_) (fun w hSw => ?_) hS (fun hS => ?_)
              rotate_left
              · go_simp; try with_reducible rfl
              try go_frame
              refine held_pure (i := 4) (oi := ⟨some 60, _, _, _, _, _⟩) rfl (by kernel_rfl) (by kernel_rfl) (by kernel_rfl) (fun _ _ _ h => h) (by rfl) (fun w hSw => run_load_cx rfl rfl (range_below a16 (by omega) hSw)) hS (fun hS => ?_)
              try go_frame
              refine held_pure (i := 7) (oi := ⟨some 63, _, _, _, _, _⟩) rfl (by kernel_rfl) (by kernel_rfl) (by kernel_rfl) (fun _ _ _ h => h) (by rfl) (v := ?_) (fun w hSw => ?_) hS (fun hS => ?_)
              rotate_left
              · go_simp; try with_reducible rfl
              try go_frame
              refine held_pure (i := 8) (oi := ⟨some 64, _, _, _, _, _⟩) rfl (by kernel_rfl) (by kernel_rfl) (by kernel_rfl) (fun _ _ _ h => h) (by rfl) (fun w hSw => run_load_v4 rfl rfl (at10.below hSw (by omega)) rfl) hS (fun hS => ?_)
              try go_frame
              refine held_pure (i := 9) (oi := ⟨some 65, _, _, _, _, _⟩) rfl (by kernel_rfl) (by kernel_rfl) (by kernel_rfl) (fun _ _ _ h => h) (by rfl) (fun w hSw => run_load_cx rfl rfl (range_below a16 (by omega) hSw)) hS (fun hS => ?_)
              try go_frame
              refine held_pure (i := 10) (oi := ⟨some 66, _, _, _, _, _⟩) rfl (by kernel_rfl) (by kernel_rfl) (by kernel_rfl) (fun _ _ _ h => h) (by rfl) (fun w hSw => run_load_cx rfl rfl (range_below a17 (by omega) hSw)) hS (fun hS => ?_)
              try go_frame
              refine wpAnyH_ready (rs := [5]) (by kernel_rfl) (by simp) (AllReadyH.cons (o := ⟨some 61, _, _, _, _, _⟩) rfl (fun K hK => ?_) AllReadyH.nil)
              rw [if_pos (by rfl)]
              refine wp_growQ (run_bsX1 (x0 := xa) rfl rfl) ?_
              have b5 : Below X1.heap.size X1 (X1.alloc (.cells ([xa].flatMap clX).toArray 126)) := (Below.refl _ _).alloc (Nat.le_refl _) _
              have r5 := rds_litX X1 [xa]
              have z5 : X1.heap.size < (X1.alloc (.cells ([xa].flatMap clX).toArray 126)).heap.size := by simp
              generalize X1.alloc (.cells ([xa].flatMap clX).toArray 126) = y5 at *
              refine hK.out _ _ (below_step hS b5) (fun hS => ?_)
              clear hK K
              try go_frame
              refine wpAnyH_ready (rs := [6]) (by kernel_rfl) (by simp) (AllReadyH.cons (o := ⟨some 62, _, _, _, _, _⟩) rfl (fun K hK => ?_) AllReadyH.nil)
              rw [if_pos (by rfl)]
              go_simp
              refine (cqsummed b A c B 10 (some ⟨X1.heap.size, 0, none⟩) 1 [xa] y5 (hA4.below (hS.mono hB4)) (Nat.le_trans hB4 hS.size) hl (by omega) (r5.more (by omega)) (fun x hx => by
                obtain rfl : x = xa := by simpa using hx
                exact ⟨(hoa.below hS).more hS.size, lensA⟩) (by simp) (hsQ b true a) HHS.out O10 HO10.out).mono ?_
              rintro e y6 ⟨P6, p6, rfl, m6⟩
              obtain ⟨_, _, e6, g6, o6, x6⟩ := made_shape m6
              cases e6
              clear m6
              show K _ _
              refine hK.out _ _ (below_step hS x6) (fun hS => ?_)
              clear hK K
              try go_frame
              refine wpAnyH_ready (rs := [11]) (by kernel_rfl) (by simp) (AllReadyH.cons (o := ⟨some 67, _, _, _, _, _⟩) rfl (fun K hK => ?_) AllReadyH.nil)
              rw [if_pos (by rfl)]
              go_simp
              have s6 := x6.size
              refine (cqwithin b A c B q H P p P' p' true a n xa xn y6 (hA4.below (hS.mono hB4)) (Nat.le_trans hB4 hS.size) hl hq ((hoa.below hS).more hS.size) ((hon.below hS).more hS.size) (by rw [EA.out]) (by rw [EA.out]) (by rw [EN.out]) (by rw [EN.out])).mono ?_
              rintro e y11 ⟨r, rfl, er, ok11, x11⟩
              show K _ _
              refine hK.out _ _ (below_step hS x11) (fun hS => ?_)
              clear hK K
              try go_frame
              refine wpAnyH_ready (rs := [12]) (by kernel_rfl) (by simp) (AllReadyH.cons (o := ⟨some 68, _, _, _, _, _⟩) rfl (fun K hK => ?_) AllReadyH.nil)
              rw [if_pos (by rfl)]
              refine wp_growQ (run_bsX4 (x0 := xa) (x1 := xn) (x2 := ⟨⟨((10 : Nat) : Int), O10, be2 (hsQ b true a)⟩, cutA A c 10, c - 10, P6, p6⟩) (x3 := r) rfl rfl rfl rfl rfl) ?_
              have b12 : Below y11.heap.size y11 (y11.alloc (.cells ([xa, xn, ⟨⟨((10 : Nat) : Int), O10, be2 (hsQ b true a)⟩, cutA A c 10, c - 10, P6, p6⟩, r].flatMap clX).toArray 126)) := (Below.refl _ _).alloc (Nat.le_refl _) _
              have r12 := rds_litX y11 [xa, xn, ⟨⟨((10 : Nat) : Int), O10, be2 (hsQ b true a)⟩, cutA A c 10, c - 10, P6, p6⟩, r]
              have z12 : y11.heap.size < (y11.alloc (.cells ([xa, xn, ⟨⟨((10 : Nat) : Int), O10, be2 (hsQ b true a)⟩, cutA A c 10, c - 10, P6, p6⟩, r].flatMap clX).toArray 126)).heap.size := by simp
              generalize y11.alloc (.cells ([xa, xn, ⟨⟨((10 : Nat) : Int), O10, be2 (hsQ b true a)⟩, cutA A c 10, c - 10, P6, p6⟩, r].flatMap clX).toArray 126) = y12 at *
              refine hK.out _ _ (below_step hS b12) (fun hS => ?_)
              clear hK K
              try go_frame
              refine wpAnyH_ready (rs := [13]) (by kernel_rfl) (by simp) (AllReadyH.cons (o := ⟨some 69, _, _, _, _, _⟩) rfl (fun K hK => ?_) AllReadyH.nil)
              rw [if_pos (by rfl)]
              go_simp
              obtain ⟨hput, hple⟩ := puts_put hq true a n xa xn ⟨⟨((10 : Nat) : Int), O10, be2 (hsQ b true a)⟩, cutA A c 10, c - 10, P6, p6⟩ r EA.out EN.out rfl rfl er
              have HFVP := Lib.hid (HFVT.out.trans hput.symm)
              clear hput
              have ok6 : XcOk y12 y12.heap.size ⟨⟨((10 : Nat) : Int), O10, be2 (hsQ b true a)⟩, cutA A c 10, c - 10, P6, p6⟩ := by
                have hm := (hA4.below (hS.mono hB4)).mid 10 2 (by omega)
                rw [← HO10.out] at hm
                exact ⟨hm.more (Nat.le_trans hB4 hS.size), ((g6.below x11).below (b12.mono x11.size)).more (Nat.le_trans x11.size b12.size)⟩
              refine (cqput b A c B (some ⟨y11.heap.size, 0, none⟩) 4 [xa, xn, ⟨⟨((10 : Nat) : Int), O10, be2 (hsQ b true a)⟩, cutA A c 10, c - 10, P6, p6⟩, r] y12 (hA4.below (hS.mono hB4)) (Nat.le_trans hB4 hS.size) hl (r12.more (by omega)) (fun x hx => ⟨by
                have hx2 : x = xa ∨ x = xn ∨ x = ⟨⟨((10 : Nat) : Int), O10, be2 (hsQ b true a)⟩, cutA A c 10, c - 10, P6, p6⟩ ∨ x = r := by simpa using hx
                rcases hx2 with rfl | rfl | rfl | rfl
                · exact (hoa.below hS).more hS.size
                · exact (hon.below hS).more hS.size
                · exact ok6
                · exact (ok11.below b12).more b12.size, hple x hx⟩) (by simp)).mono ?_
              rintro e y13 ⟨P13, p13, rfl, m13⟩
              rw [← HFVP.out] at m13
              rw [← HFVP.out]
              have x13 := m13.below
              have hS12 := hS
              show K _ _
              refine hK.out _ _ (below_step hS x13) (fun hS => ?_)
              clear hK K
              try go_frame
              refine held_pure (i := 14) (oi := ⟨some 8, _, _, _, _, _⟩) rfl (by kernel_rfl) (by kernel_rfl) (by kernel_rfl) (fun _ _ _ h => h) (by rfl) (v := ?_) (fun w hSw => ?_) hS (fun hS => ?_)
              rotate_left
              · go_simp; try with_reducible rfl
              try go_frame
              refine held_pure (i := 15) (oi := ⟨some 9, _, _, _, _, _⟩) rfl (by kernel_rfl) (by kernel_rfl) (by kernel_rfl) (fun _ _ _ h => h) (by rfl) (v := ?_) (fun w hSw => ?_) hS (fun hS => ?_)
              rotate_left
              · go_simp; try with_reducible rfl
              try go_frame
              refine wpAnyH_done (by kernel_rfl) ?_ _
              go_wp2_with fail
              go_ret2
              exact ⟨P13, p13, by rw [HN.out]; rfl, m13.after (hb4.trans (hS12.mono hb4.size))⟩
          · rw [if_pos (by rfl)]
            go_simp
            have g17 := World.alloc_heap_new X0 (.cells #[.int .i64 0, .slice none 0 0, .slice none 0 0] 126)
            have bA : Below V3.heap.size V3 (World.alloc X0 (.cells #[.int .i64 0, .slice none 0 0, .slice none 0 0] 126)) := hS.alloc hS.size _
            have bX : Below X0.heap.size X0 (World.alloc X0 (.cells #[.int .i64 0, .slice none 0 0, .slice none 0 0] 126)) := (Below.refl _ _).alloc (Nat.le_refl _) _
            obtain ⟨z17, hz17⟩ : ∃ z, z = X0.heap.size := ⟨_, rfl⟩
            have l17 : V3.heap.size ≤ z17 := by rw [hz17]; exact hS.size
            rw [← hz17] at g17 ⊢
            generalize World.alloc X0 (.cells #[.int .i64 0, .slice none 0 0, .slice none 0 0] 126) = y8 at *
            clear hz17 bX
            show K _ _
            refine hK.out _ _ bA (fun hS => ?_)
            clear hK K bA
            try go_frame
            refine wpAnyH_ready (rs := [2]) (by kernel_rfl) (by simp) (AllReadyH.cons (o := ⟨some 50, _, _, _, _, _⟩) rfl (fun K hK => ?_) AllReadyH.nil)
            rw [if_pos (by rfl)]
            go_simp
            refine (c4head q P p P' p' _ hol).mono ?_
            rintro e y2 ⟨rfl, xh2⟩
            rw [hHh]
            have g17 := (xh2.block _ (heap_lt g17)).trans g17
            show K _ _
            refine hK.out _ _ (below_step hS xh2) (fun hS => ?_)
            clear hK K xh2
            try go_frame
            refine held_pure (i := 5) (oi := ⟨some 53, _, _, _, _, _⟩) rfl (by kernel_rfl) (by kernel_rfl) (by kernel_rfl) (fun _ _ _ h => h) (by rfl) (v := .int .i64 ((H + ppQ q.proto true : Nat) : Int)) (fun w hSw => by go_simp; exact HADD.out) hS (fun hS => ?_)
            try go_frame
            refine wpAnyH_ready (rs := [7]) (by kernel_rfl) (by simp) (AllReadyH.cons (o := ⟨some 55, _, _, _, _, _⟩) rfl (fun K hK => ?_) AllReadyH.nil)
            rw [if_pos (by rfl)]
            go_simp
            have lt7 := hS.size
            refine (cqchanged b A c (H + ppQ q.proto true) 2 n 2 (be2 n) (opQ b q H true) _ hcap hl rfl (put_two (bs := []) hn0 hn1) rfl (by omega) (by omega)).mono ?_
            rintro e y7 ⟨P7, p7, rfl, m7⟩
            obtain ⟨_, _, e7, g7, o7, x7⟩ := made_shape m7
            cases e7
            clear m7
            have hlt17 := heap_lt g17
            have hAF : ∀ cs : Array Value, Arg (y7.setRow z17 cs) (y7.setRow z17 cs).heap.size P7 p7 (be2 n) := fun cs => Made.arg (own_setRow o7 (g := z17) hlt17)
            have g17 := (x7.block _ hlt17).trans g17
            show K _ _
            refine hK.out _ _ (below_step hS x7) (fun hS => ?_)
            clear hK K
            try go_frame
            refine wpAnyH_ready (rs := [9]) (by kernel_rfl) (by simp) (AllReadyH.cons (o := ⟨none, _, _, _, _, _⟩) rfl (fun K hK => ?_) AllReadyH.nil)
            rw [if_pos (by rfl)]
            obtain ⟨V4, hV4, b9, hgF, gF⟩ := pack9 (cs := cha ⟨((H + ppQ q.proto true : Nat) : Int), opQ b q H true, be2 n⟩ (cutA A c (H + ppQ q.proto true)) (c - (H + ppQ q.proto true)) P7 p7) hS g17 hAF l17
            refine wp_store_row 126 _ _ rfl z17 (cha ⟨((H + ppQ q.proto true : Nat) : Int), opQ b q H true, be2 n⟩ (cutA A c (H + ppQ q.proto true)) (c - (H + ppQ q.proto true)) P7 p7) rfl rfl 126 _ g17 (by kernel_rfl) rfl (ch_one _ _ _ _ _) ?_
            rw [← hV4]
            refine hK.out _ _ b9 (fun hS => ?_)
            clear hK K hAF b9 hV4 g17
            try go_frame
            refine wpAnyH_done (by kernel_rfl) ?_ _
            go_wp2_with fail
            have hz34 := hS.size
            obtain ⟨xn, en, a17, hon⟩ : ∃ x : Xc, x.q = ⟨((H + ppQ q.proto true : Nat) : Int), opQ b q H true, be2 n⟩ ∧ V4.rangeAt z17 0 (clX x) ∧ XcOk V4 V4.heap.size x :=
              ⟨⟨⟨((H + ppQ q.proto true : Nat) : Int), opQ b q H true, be2 n⟩, cutA A c (H + ppQ q.proto true), c - (H + ppQ q.proto true), P7, p7⟩, rfl, Atch.of_heap hgF, ((hA3.below (hS.mono hB3)).mid _ 2 (by omega)).more (Nat.le_trans hB3 hz34), gF⟩
            have hzl17 := heap_lt hgF
            have a16 := range_below a16 h16 hS
            have at10 := at10.below hS h10
            have hoa := (hoa.below hS).more hz34
            have hA4 := hA3.below (hS.mono hB3)
            have hB4 := Nat.le_trans hB3 hz34
            have hb4 := hb3.trans (hS.mono hb3.size)
            have h16 := Nat.lt_of_lt_of_le h16 hz34
            have h10 := Nat.lt_of_lt_of_le h10 hz34
            have EN := Lib.hid en
            clear hgF gF hS en
            obtain ⟨O10, hO10⟩ : ∃ l, l = (b.drop 10).take 2 := ⟨_, rfl⟩
            have HO10 := Lib.hid hO10
            have HHS := Lib.hid (show chg (n2 b 10) (oldsX [xa]) (nowsX [xa]) = hsQ b true a by simp [oldsX, nowsX, EA.out, hsQ])
            have lensA : xa.q.old.length ≤ 10 ∧ xa.q.now.length ≤ 10 := by rw [EA.out]; exact ⟨by simp [oaQ]; omega, by show (be4 a).length ≤ 10; rw [be4_len]; omega⟩
            clear hO10
            refine wp_region_held_drew (S := fun w' => Below V4.heap.size V4 w') (by kernel_rfl) (Below.refl _ V4).drew (fun hS => ?_)
            generalize hX1 : V4.drew = X1 at *
            clear hX1
            refine held_pure (i := 0) (oi := ⟨some 56, _, _, _, _, _⟩) rfl (by kernel_rfl) (by kernel_rfl) (by kernel_rfl) (fun _ _ _ h => h) (by rfl) (v := ?_) (fun w hSw => ?_) hS (fun hS => ?_)
            rotate_left
            · go_simp; try with_reducible rfl
            try go_frame
            refine held_pure (i := 1) (oi := ⟨some 57, _, _, _, _, _⟩) rfl (by kernel_rfl) (by kernel_rfl) (by kernel_rfl) (fun _ _ _ h => h) (by rfl) (fun w hSw => run_load_cx rfl rfl (range_below a16 (by omega) hSw)) hS (fun hS => ?_)
            try go_frame
            refine held_pure (i := 2) (oi := ⟨some 58, _, _, _, _, _⟩) rfl (by kernel_rfl) (by kernel_rfl) (by kernel_rfl) (fun _ _ _ h => h) (by rfl) (fun w hSw => run_load_cx rfl rfl (range_below a17 (by omega) hSw)) hS (fun hS => ?_)
            try go_frame
            refine held_pure (i := 3) (oi := ⟨some 59, _, _, _, _, _⟩) rfl (by kernel_rfl) (by kernel_rfl) (by kernel_rfl) (fun _ _ _ h => h) (by rfl) (v := ?_) (fun w hSw => ?_) hS (fun hS => ?_)
            rotate_left
            · go_simp; try with_reducible rfl
            try go_frame
            refine held_pure (i := 4) (oi := ⟨some 60, _, _, _, _, _⟩) rfl (by kernel_rfl) (by kernel_rfl) (by kernel_rfl) (fun _ _ _ h => h) (by rfl) (fun w hSw => run_load_cx rfl rfl (range_below a16 (by omega) hSw)) hS (fun hS => ?_)
            try go_frame
            refine held_pure (i := 7) (oi := ⟨some 63, _, _, _, _, _⟩) rfl (by kernel_rfl) (by kernel_rfl) (by kernel_rfl) (fun _ _ _ h => h) (by rfl) (v := ?_) (fun w hSw => ?_) hS (fun hS => ?_)
            rotate_left
            · go_simp; try with_reducible rfl
            try go_frame
            refine held_pure (i := 8) (oi := ⟨some 64, _, _, _, _, _⟩) rfl (by kernel_rfl) (by kernel_rfl) (by kernel_rfl) (fun _ _ _ h => h) (by rfl) (fun w hSw => run_load_v4 rfl rfl (at10.below hSw (by omega)) rfl) hS (fun hS => ?_)
            try go_frame
            refine held_pure (i := 9) (oi := ⟨some 65, _, _, _, _, _⟩) rfl (by kernel_rfl) (by kernel_rfl) (by kernel_rfl) (fun _ _ _ h => h) (by rfl) (fun w hSw => run_load_cx rfl rfl (range_below a16 (by omega) hSw)) hS (fun hS => ?_)
            try go_frame
            refine held_pure (i := 10) (oi := ⟨some 66, _, _, _, _, _⟩) rfl (by kernel_rfl) (by kernel_rfl) (by kernel_rfl) (fun _ _ _ h => h) (by rfl) (fun w hSw => run_load_cx rfl rfl (range_below a17 (by omega) hSw)) hS (fun hS => ?_)
            try go_frame
            refine wpAnyH_ready (rs := [5]) (by kernel_rfl) (by simp) (AllReadyH.cons (o := ⟨some 61, _, _, _, _, _⟩) rfl (fun K hK => ?_) AllReadyH.nil)
            rw [if_pos (by rfl)]
            refine wp_growQ (run_bsX1 (x0 := xa) rfl rfl) ?_
            have b5 : Below X1.heap.size X1 (X1.alloc (.cells ([xa].flatMap clX).toArray 126)) := (Below.refl _ _).alloc (Nat.le_refl _) _
            have r5 := rds_litX X1 [xa]
            have z5 : X1.heap.size < (X1.alloc (.cells ([xa].flatMap clX).toArray 126)).heap.size := by simp
            generalize X1.alloc (.cells ([xa].flatMap clX).toArray 126) = y5 at *
            refine hK.out _ _ (below_step hS b5) (fun hS => ?_)
            clear hK K
            try go_frame
            refine wpAnyH_ready (rs := [6]) (by kernel_rfl) (by simp) (AllReadyH.cons (o := ⟨some 62, _, _, _, _, _⟩) rfl (fun K hK => ?_) AllReadyH.nil)
            rw [if_pos (by rfl)]
            go_simp
            refine (cqsummed b A c B 10 (some ⟨X1.heap.size, 0, none⟩) 1 [xa] y5 (hA4.below (hS.mono hB4)) (Nat.le_trans hB4 hS.size) hl (by omega) (r5.more (by omega)) (fun x hx => by
              obtain rfl : x = xa := by simpa using hx
              exact ⟨(hoa.below hS).more hS.size, lensA⟩) (by simp) (hsQ b true a) HHS.out O10 HO10.out).mono ?_
            rintro e y6 ⟨P6, p6, rfl, m6⟩
            obtain ⟨_, _, e6, g6, o6, x6⟩ := made_shape m6
            cases e6
            clear m6
            show K _ _
            refine hK.out _ _ (below_step hS x6) (fun hS => ?_)
            clear hK K
            try go_frame
            refine wpAnyH_ready (rs := [11]) (by kernel_rfl) (by simp) (AllReadyH.cons (o := ⟨some 67, _, _, _, _, _⟩) rfl (fun K hK => ?_) AllReadyH.nil)
            rw [if_pos (by rfl)]
            go_simp
            have s6 := x6.size
            refine (cqwithin b A c B q H P p P' p' true a n xa xn y6 (hA4.below (hS.mono hB4)) (Nat.le_trans hB4 hS.size) hl hq ((hoa.below hS).more hS.size) ((hon.below hS).more hS.size) (by rw [EA.out]) (by rw [EA.out]) (by rw [EN.out]) (by rw [EN.out])).mono ?_
            rintro e y11 ⟨r, rfl, er, ok11, x11⟩
            show K _ _
            refine hK.out _ _ (below_step hS x11) (fun hS => ?_)
            clear hK K
            try go_frame
            refine wpAnyH_ready (rs := [12]) (by kernel_rfl) (by simp) (AllReadyH.cons (o := ⟨some 68, _, _, _, _, _⟩) rfl (fun K hK => ?_) AllReadyH.nil)
            rw [if_pos (by rfl)]
            refine wp_growQ (run_bsX4 (x0 := xa) (x1 := xn) (x2 := ⟨⟨((10 : Nat) : Int), O10, be2 (hsQ b true a)⟩, cutA A c 10, c - 10, P6, p6⟩) (x3 := r) rfl rfl rfl rfl rfl) ?_
            have b12 : Below y11.heap.size y11 (y11.alloc (.cells ([xa, xn, ⟨⟨((10 : Nat) : Int), O10, be2 (hsQ b true a)⟩, cutA A c 10, c - 10, P6, p6⟩, r].flatMap clX).toArray 126)) := (Below.refl _ _).alloc (Nat.le_refl _) _
            have r12 := rds_litX y11 [xa, xn, ⟨⟨((10 : Nat) : Int), O10, be2 (hsQ b true a)⟩, cutA A c 10, c - 10, P6, p6⟩, r]
            have z12 : y11.heap.size < (y11.alloc (.cells ([xa, xn, ⟨⟨((10 : Nat) : Int), O10, be2 (hsQ b true a)⟩, cutA A c 10, c - 10, P6, p6⟩, r].flatMap clX).toArray 126)).heap.size := by simp
            generalize y11.alloc (.cells ([xa, xn, ⟨⟨((10 : Nat) : Int), O10, be2 (hsQ b true a)⟩, cutA A c 10, c - 10, P6, p6⟩, r].flatMap clX).toArray 126) = y12 at *
            refine hK.out _ _ (below_step hS b12) (fun hS => ?_)
            clear hK K
            try go_frame
            refine wpAnyH_ready (rs := [13]) (by kernel_rfl) (by simp) (AllReadyH.cons (o := ⟨some 69, _, _, _, _, _⟩) rfl (fun K hK => ?_) AllReadyH.nil)
            rw [if_pos (by rfl)]
            go_simp
            obtain ⟨hput, hple⟩ := puts_put hq true a n xa xn ⟨⟨((10 : Nat) : Int), O10, be2 (hsQ b true a)⟩, cutA A c 10, c - 10, P6, p6⟩ r EA.out EN.out rfl rfl er
            have HFVP := Lib.hid (HFVT.out.trans hput.symm)
            clear hput
            have ok6 : XcOk y12 y12.heap.size ⟨⟨((10 : Nat) : Int), O10, be2 (hsQ b true a)⟩, cutA A c 10, c - 10, P6, p6⟩ := by
              have hm := (hA4.below (hS.mono hB4)).mid 10 2 (by omega)
              rw [← HO10.out] at hm
              exact ⟨hm.more (Nat.le_trans hB4 hS.size), ((g6.below x11).below (b12.mono x11.size)).more (Nat.le_trans x11.size b12.size)⟩
            refine (cqput b A c B (some ⟨y11.heap.size, 0, none⟩) 4 [xa, xn, ⟨⟨((10 : Nat) : Int), O10, be2 (hsQ b true a)⟩, cutA A c 10, c - 10, P6, p6⟩, r] y12 (hA4.below (hS.mono hB4)) (Nat.le_trans hB4 hS.size) hl (r12.more (by omega)) (fun x hx => ⟨by
              have hx2 : x = xa ∨ x = xn ∨ x = ⟨⟨((10 : Nat) : Int), O10, be2 (hsQ b true a)⟩, cutA A c 10, c - 10, P6, p6⟩ ∨ x = r := by simpa using hx
              rcases hx2 with rfl | rfl | rfl | rfl
              · exact (hoa.below hS).more hS.size
              · exact (hon.below hS).more hS.size
              · exact ok6
              · exact (ok11.below b12).more b12.size, hple x hx⟩) (by simp)).mono ?_
            rintro e y13 ⟨P13, p13, rfl, m13⟩
            rw [← HFVP.out] at m13
            rw [← HFVP.out]
            have x13 := m13.below
            have hS12 := hS
            show K _ _
            refine hK.out _ _ (below_step hS x13) (fun hS => ?_)
            clear hK K
            try go_frame
            refine held_pure (i := 14) (oi := ⟨some 8, _, _, _, _, _⟩) rfl (by kernel_rfl) (by kernel_rfl) (by kernel_rfl) (fun _ _ _ h => h) (by rfl) (v := ?_) (fun w hSw => ?_) hS (fun hS => ?_)
            rotate_left
            · go_simp; try with_reducible rfl
            try go_frame
            refine held_pure (i := 15) (oi := ⟨some 9, _, _, _, _, _⟩) rfl (by kernel_rfl) (by kernel_rfl) (by kernel_rfl) (fun _ _ _ h => h) (by rfl) (v := ?_) (fun w hSw => ?_) hS (fun hS => ?_)
            rotate_left
            · go_simp; try with_reducible rfl
            try go_frame
            refine wpAnyH_done (by kernel_rfl) ?_ _
            go_wp2_with fail
            go_ret2
            exact ⟨P13, p13, by rw [HN.out]; rfl, m13.after (hb4.trans (hS12.mono hb4.size))⟩
  · have dE : (E != 0) = true := by simpa using h0
    have HN := Lib.hid (show FE = E by rw [HFE.out, if_pos h0])
    go_wp2
    go_ret2
    have := NIL.out _ hb1 (by rw [HN.out]; exact h0)
    rw [HN.out] at this ⊢
    exact this
end Go.Proofs.Ytkgbjohadkbjaaa
