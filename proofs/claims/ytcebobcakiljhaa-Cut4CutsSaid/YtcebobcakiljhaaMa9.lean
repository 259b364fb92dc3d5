/-
  Contracts and lemmas on which the proofs of this seat stand (several texts in one). Conditions are each theorem's own.
-/
import Derived.Test.YtcebobcakiljhaaMa8
import Derived.Test.YtcebobcakiljhaaMa5
import Derived.Test.YtcebobcakiljhaaMa6
import Derived.Sort.CutIn

/-
  The iterator of cut4's fragments. Conditions are each theorem's own.
-/
namespace Go.Proofs.Ytcebobcakiljhaa
open Go.RowKit Go.Shelf
attribute [local go_sem] Oper.semAt_some

theorem at4_of {W : World} {g : Nat} {q : P4} {A : Option Addr} {c : Nat} {A' : Option Addr} {c' : Nat} (h : W.heap[g]? = some (.cells (v4a q A c A' c') 24 (0, 0))) : At4 W g q A c A' c' := fun j v hj => by
  rw [Nat.zero_add, cell_of_row _ _ _ _ _ _ h, ← Array.getElem?_toList]; exact hj
theorem wp_valU {o : Oper} {a : Act} {w : World} {K : Act → World → Prop} {Q : Exit → Act → World → Prop} {v : Value} (hrun : (execOp a.eval o).run Try.prog w = .ok (.value v) w) (h : K (a.put o.dst v) w) : o.wp Try.prog a w K Q := by
  unfold Oper.wp; rw [hrun]; exact h
theorem store_slU {o : Oper} {a : Act} {w : World} {K : Act → World → Prop} {Q : Exit → Act → World → Prop} {x y : Operand} {p : Addr} {v0 : Value} {A : Option Addr} {n c : Nat} (ho : o.op = .store 22 x y) (hx : a.eval x = .pointer (some p)) (hy : a.eval y = .slice A n c) (hc : w.cell? p = some v0) (hf : w.frozen? p = false)
    (h : K (a.put o.dst undef) (w.setCell p (.slice A n c))) : o.wp Try.prog a w K Q := by
  unfold Oper.wp execOp
  simp only [ho, hx, hy, Instr.storeAt, Instr.sureAddr, Sem.run_bind, Sem.run_pure, Result.andThen_ok]
  go_simp
  exact h
/-- An operation of a fenced list that yields a value, or stores. -/
theorem listI_val {n : Nat} {P : Program} {ops : Array Oper} {rest : List Oper} {o : Oper} {a : Act} {w : World} {Q : Exit → Act → World → Prop} {v : Value} (hg : o.guard = none) (hrun : (execOp a.eval o).run P w = .ok (.value v) w)
    (h : wpListIn Fence.wide n P ops Q rest (a.put o.dst v) w) : wpListIn Fence.wide n P ops Q (o :: rest) a w :=
  wpListIn_plain hg fun K hK => ⟨fun _ _ => trivial, by rw [show Fence.wide.round = none from rfl, Oper.semAt_none, hrun]; exact hK _ _ h⟩
theorem listI_skip {n : Nat} {P : Program} {ops : Array Oper} {rest : List Oper} {o : Oper} {a : Act} {w w' : World} {Q : Exit → Act → World → Prop} (hg : o.guard = none) (hrun : (execOp a.eval o).run P w = .ok .skip w')
    (h : wpListIn Fence.wide n P ops Q rest (a.put o.dst undef) w') : wpListIn Fence.wide n P ops Q (o :: rest) a w :=
  wpListIn_plain hg fun K hK => ⟨fun _ _ => trivial, by rw [show Fence.wide.round = none from rfl, Oper.semAt_none, hrun]; exact hK _ _ h⟩
theorem run_store4 {o : Oper} {a : Act} {w : World} {x y : Operand} {g : Nat} {t : TypeId} {cs old : Array Value} (ho : o.op = .store 24 x y) (hx : a.eval x = .pointer (some ⟨g, 0, none⟩)) (hy : a.eval y = .agg cs) (hg : w.heap[g]? = some (.cells old t (0, 0))) (hz : old.size = 11) (hl : cs.size = 11) (h1 : cs.all (·.oneCell') = true) :
    (execOp a.eval o).run Try.prog w = .ok .skip (w.setRow g cs) := by
  have hst := run_storeVar_row (P := Try.prog) w g t 24 old cs hg (by rw [hl]; kernel_rfl) (by rw [hz, hl]) h1
  unfold execOp
  simp only [ho, hx, hy, Instr.storeAt, Instr.sureAddr, Sem.run_bind, Sem.run_pure, Result.andThen_ok, hst]
/-- Each block but one lies as it lay. -/
def KeepR (r : Nat) (X Y : World) : Prop := Y.heap.size = X.heap.size ∧ Y.os = X.os ∧ Y.tape = X.tape ∧ Y.output = X.output ∧ ∀ k, k ≠ r → Y.heap[k]? = X.heap[k]?
theorem KeepR.set2 (X : World) (r i : Nat) {v : Value} : KeepR r X (X.setCell ⟨r, i, none⟩ v) := ⟨by simp, rfl, rfl, rfl, fun _ hk => Below.heap_setCell _ _ _ _ (by simpa using hk)⟩
theorem KeepR.set1 (X : World) (r i : Nat) {v : Value} : KeepR r X (X.drew.setCell ⟨r, i, none⟩ v) := ⟨by simp, rfl, rfl, rfl, fun _ hk => Below.heap_setCell X.drew _ _ _ (by simpa using hk)⟩
theorem KeepR.trans {r : Nat} {X Y Z : World} (h : KeepR r Y Z) (k : KeepR r X Y) : KeepR r X Z :=
  ⟨h.1.trans k.1, h.2.1.trans k.2.1, h.2.2.1.trans k.2.2.1, h.2.2.2.1.trans k.2.2.2.1, fun i hi => (h.2.2.2.2 i hi).trans (k.2.2.2.2 i hi)⟩
theorem c13partN (q : P4) (A : Option Addr) (c : Nat) (A' : Option Addr) (c' : Nat) (D : Option Addr) (d : Nat) (dat : List UInt8) (n : Nat) (mr : Bool) (w : World) (B : Nat) (hn : Hid (dat.length = n)) (hO : Arg w B A c q.opt) (hD : Arg w B D d dat) (hB0 : B ≤ w.heap.size) (ho : q.opt.length ≤ 1000000) (hl : n ≤ 1000000) :
    Calls Try.prog 54 #[v4v q A c A' c', .slice D n d, .bool mr] w fun e w' => ∃ P p P' p', e = .returned (v4v { q with mf := mr, dat := dat } P p P' p') ∧ Own4 w' w.heap.size ⟨{ q with mf := mr, dat := dat }, P, p, P', p'⟩ ∧ Below w.heap.size w w' := by
  have := c13part q A c A' c' D d dat mr w B hO hD hB0 ho (by rw [hn.out]; exact hl)
  rwa [hn.out] at this
/-- Options that were given, or that the call made. -/
def OptAt (W : World) (B base : Nat) (A : Option Addr) (c : Nat) (bs : List UInt8) : Prop := Arg W B A c bs ∨ W.ownsRow base 5 1 (.slice A bs.length c) bs.length (row bs)
theorem OptAt.arg {W : World} {B base : Nat} {A : Option Addr} {c : Nat} {bs : List UInt8} (h : OptAt W B base A c bs) (hB : B ≤ W.heap.size) : Arg W W.heap.size A c bs := by
  rcases h with h | h
  · exact h.more hB
  · exact arg_own h
def Kp4 (B : Nat) (X Y : World) : Prop := KeepS 24 26 11 X Y ∧ KeepP (· < B) X Y
theorem Kp4.refl (B : Nat) (X : World) : Kp4 B X X := ⟨KeepS.refl X, KeepP.refl _ X⟩
theorem Kp4.trans {B : Nat} {X Y Z : World} (h : Kp4 B X Y) (k : Kp4 B Y Z) : Kp4 B X Z := ⟨h.1.trans k.1, h.2.trans k.2⟩
theorem Kp4.of_below {B : Nat} {X Y : World} (h : Below X.heap.size X Y) (hB : B ≤ X.heap.size) : Kp4 B X Y := ⟨KeepS.of_below h, KeepP.of_below h (fun _ hk => Nat.lt_of_lt_of_le hk hB)⟩
theorem Kp4.arg {B : Nat} {X Y : World} {A : Option Addr} {c : Nat} {bs : List UInt8} (k : Kp4 B X Y) (h : Arg X B A c bs) : Arg Y B A c bs := ⟨h.rd.keep (fun _ hp => k.2.cell hp), h.cap, h.none_⟩
theorem Kp4.opt {B base : Nat} {X Y : World} {A : Option Addr} {c : Nat} {bs : List UInt8} (k : Kp4 B X Y) (h : OptAt X B base A c bs) : OptAt Y B base A c bs := by
  rcases h with h | h
  · exact .inl (k.arg h)
  · exact .inr (k.1.own h (nat_ne (by kernel_rfl)) (nat_ne (by kernel_rfl)))
/-- The same of a world that differs in one block of a packet, above what was given. -/
theorem KeepR.arg {r B : Nat} {X Y : World} {A : Option Addr} {c : Nat} {bs : List UInt8} (k : KeepR r X Y) (hr : B ≤ r) (h : Arg X B A c bs) : Arg Y B A c bs :=
  ⟨h.rd.keep (fun p hp => World.cell?_of_block (w := X) (k.2.2.2.2 p.block (by omega))), h.cap, h.none_⟩
theorem KeepR.own {r base e sz n t : Nat} {X Y : World} {v : Value} {xs : List Value} {cs : Array Value} (k : KeepR r X Y) (hr : X.heap[r]? = some (.cells cs t (0, 0))) (hte : t ≠ e) (h : X.ownsRow base e sz v n xs) : Y.ownsRow base e sz v n xs := by
  refine ⟨h.1, ?_⟩
  rcases h.2 with hn | ⟨g', cap, cur, hv, hb, hg', rest⟩
  · exact .inl hn
  · exact .inr ⟨g', cap, cur, hv, hb, (k.2.2.2.2 g' (fun e' => by subst e'; rw [hg'] at hr; cases hr; exact hte rfl)).trans hg', rest⟩
theorem KeepR.grown {r : Nat} {X Y : World} (k : KeepR r X Y) : X.grownBy Y (some r) := ⟨k.2.1, k.2.2.1, k.2.2.2.1, by rw [k.1]; exact Nat.le_refl _, fun i _ hi => k.2.2.2.2 i (fun e => hi (by rw [e]))⟩
/-- The first block that was laid since may be written. -/
theorem Kp4.set {B r : Nat} {X Y Z : World} (h : Kp4 B X Y) (_hrr : r ≤ r) (hBr : B ≤ r) (hr : X.heap.size ≤ r) (k : KeepR r Y Z) : Kp4 B X Z :=
  ⟨⟨by rw [k.1]; exact h.1.size, fun i cs ty fr hi h1 h2 => (k.2.2.2.2 i (fun e => by have := heap_lt hi; omega)).trans (h.1.block i cs ty fr hi h1 h2)⟩,
   ⟨by rw [k.1]; exact h.2.1, fun i hi => (k.2.2.2.2 i (fun e => by have : i < B := hi; omega)).trans (h.2.2 i hi)⟩⟩
def enc4 (x : X4) : Array Value := #[v4v x.q x.A x.c x.A' x.c']
/-- What is known of a fragment when it comes. -/
def G4 (L : List P4) (base : Nat) (pre : List X4) (x : X4) (W : World) : Prop := (∃ more, L = pre.map (·.q) ++ x.q :: more) ∧ Own4 W base x
/-- How many bytes of data the packet in a box has. -/
def dlen (w : World) (g : Nat) : Nat := match w.cell? ⟨g, 10, none⟩ with | some (.slice _ n _) => n | _ => 0
theorem dlen_row {w : World} {g : Nat} {q : P4} {A : Option Addr} {c : Nat} {A' : Option Addr} {c' : Nat} (h : w.heap[g]? = some (.cells (v4a q A c A' c') 24 (0, 0))) : dlen w g = q.dat.length := by
  unfold dlen; rw [(at4_of h).dat]
set_option maxRecDepth 100000 in
set_option maxHeartbeats 2000000 in
theorem frs1_in (m : Nat) (hm : 1 ≤ m) (l Bp Bm base B : Nat) (q : P4) (A : Option Addr) (c : Nat) (A' : Option Addr) (c' : Nat) (mtu : Int) (hcut : Cuttable mtu q) (hco : (copied q.opt).length ≤ 40 ∧ (copied q.opt).length % 4 = 0) (J : List X4 → World → Prop) (W : World)
    (hO : Arg W B A c q.opt) (hD : Arg W B A' c' q.dat) (hBb : B ≤ base) (hbW : base ≤ W.heap.size) (hp : W.heap[Bp]? = some (.cells (v4a q A c A' c') 24 (0, 0))) (hmb : Boxed W Bm 3 (.int .i64 mtu)) (hJA : StaysAt 24 W.heap.size J)
    (hY : ∀ pre x X, J pre X → G4 (rst4 mtu (copied q.opt) q.mf q) base pre x X → W.heap.size < X.heap.size → YieldAt Fence.wide (m - 1) Try.prog l (enc4 x) X fun e Y => e = .returned (.bool true) ∧ J (pre ++ [x]) Y ∧ Kp4 B X Y) (hJ : J [] W) :
    CallsIn Fence.wide m Try.prog 53 #[.func (.yield l) #[] #[], .pointer (some ⟨Bp, 0, none⟩), .pointer (some ⟨Bm, 0, none⟩)] W fun e W' => (∃ v, e = .returned v) ∧ ∃ xs : List X4, xs.map (·.q) = rst4 mtu (copied q.opt) q.mf q ∧ J xs W' := by
  have hTt : 24 ≠ 26 := nat_ne (by kernel_rfl)
  have hTu : 24 ≠ 5 := nat_ne (by kernel_rfl)
  have hTi : 3 ≠ 26 := nat_ne (by kernel_rfl)
  obtain ⟨o, ho⟩ : ∃ o, o = copied q.opt := ⟨_, rfl⟩
  obtain ⟨L, hL⟩ : ∃ L, L = rst4 mtu (copied q.opt) q.mf q := ⟨_, rfl⟩
  rw [← hL] at hY ⊢
  rw [← ho] at hL hco
  have HL0 := Lib.hid hL
  have HOO := Lib.hid ho
  have hAp := at4_of hp
  have HCU := Lib.hid hcut
  have hqo : q.opt.length ≤ 40 := hcut.opt.1
  have hmtu : 68 ≤ mtu ∧ mtu ≤ 65535 := ⟨hcut.lo, hcut.hi⟩
  clear hL ho hcut
  have hNew := W.alloc_heap_new (.cells (v4a q A c A' c') 24)
  refine callsIn_of_wp Try.func53 rfl trivial ?_ rfl
  simp only [Try.ntmps53, List.size_toArray, List.length_cons, List.length_nil, Nat.reduceAdd, Nat.reduceSub, Array.replicate_succ, Array.replicate_zero, List.push_toArray, List.append_toArray, List.nil_append, List.cons_append]
  gi_wp2_with (first
    | ((with_reducible show wpListIn _ _ _ _ _ (Oper.mk _ (Op.load 24 _) _ _ _ _ :: _) _ _); refine listI_val rfl (run_load_v4 rfl rfl hAp rfl) ?_)
    | ((with_reducible show wpListIn _ _ _ _ _ (Oper.mk _ (Op.store 24 _ _) _ _ _ _ :: _) _ _); refine listI_skip rfl (run_store4 (cs := v4a q A c A' c') rfl rfl rfl (World.alloc_heap_new W _) rfl rfl (v4a_one _ _ _ _ _)) ?_; rw [World.setRow_alloc_new]))
  have hAv := Kp4.of_below (B := B) ((Below.refl _ W).alloc (Nat.le_refl _) (.cells (v4a q A c A' c') 24)) (by omega)
  have hJ1 : J [] (W.alloc (.cells (v4a q A c A' c') 24)) := hJA [] W _ none hJ (World.grownBy_alloc W _ none) (fun _ e => by cases e)
  have hs1 : (W.alloc (.cells (v4a q A c A' c') 24)).heap.size = W.heap.size + 1 := by simp
  obtain ⟨r, hr⟩ : ∃ r, r = W.heap.size := ⟨_, rfl⟩
  rw [← hr] at hNew hs1 ⊢
  have hBpr : Bp < r := by rw [hr]; exact heap_lt hp
  have hBmr : Bm < r := by rw [hr]; exact Boxed.lt hmb
  have hbr : base ≤ r := by rw [hr]; exact hbW
  have hJA' : StaysAt 24 r J := by rw [hr]; exact hJA
  rw [← hr] at hY
  obtain ⟨W0, hW0⟩ : ∃ W0, W0 = W.alloc (.cells (v4a q A c A' c') 24) := ⟨_, rfl⟩
  rw [← hW0] at hNew hJ1 hs1 hAv ⊢
  have HR := Lib.hid hr
  have hrV : W.heap.size ≤ r := by rw [hr]; exact Nat.le_refl _
  clear hW0 hr hAp hJA hJ hbW
  go_frame
  gi_loopw [] (fun wr => ∃ (rs : P4) (Ao : Option Addr) (co : Nat) (Ad : Option Addr) (cd : Nat) (pre : List X4), Hid (L = pre.map (·.q) ++ rst4 mtu o q.mf rs) ∧ Hid (Cuttable mtu rs) ∧ wr.heap[r]? = some (.cells (v4a rs Ao co Ad cd) 24 (0, 0)) ∧
      OptAt wr B base Ao co rs.opt ∧ Arg wr B Ad cd rs.dat ∧ J pre wr ∧ Kp4 B W wr ∧ r < wr.heap.size)
    (fun wr => dlen wr r)
  case atStart => exact ⟨q, A, c, A', c', [], HL0, HCU, hNew, .inl (hAv.arg hO), hAv.arg hD, hJ1, hAv, by omega⟩
  case round =>
    obtain ⟨rs, Ao, co, Ad, cd, pre, HL, HC, hrow, hOp, hDt, hJs, hK, hrlt⟩ := hrel
    have hAt := at4_of hrow
    have hmw := hK.1.box hmb hTi (fun e => by omega)
    have km := hmw.cell
    have hmlt : Bm < wr.heap.size := by omega
    have ho1 : rs.opt.length ≤ 1000000 := by have := HC.out.opt.1; omega
    have hd1 : rs.dat.length ≤ 65535 := by obtain ⟨b1, _, b3, _⟩ := HC.out.off; omega
    have hd2 : rs.dat.length ≤ 1000000 := by omega
    have hcapD := hDt.cap
    by_cases hs : size4 rs > mtu
    · have d1 : decide (size4 rs > mtu) = true := by simpa using hs
      have d2 : decide (mtu < size4 rs) = true := by simpa using hs
      have hrb := room_bd HC.out
      have hrl := room_lt HC.out hs
      have HS := Lib.hid hs
      clear hs
      gi_wp2
      refine wpIn_wide.2 ?_
      refine wp_region_held_drew (S := fun w' => Below wr.heap.size wr w') (by kernel_rfl) (Below.refl _ wr).drew (fun hS => ?_)
      refine held_pure (i := 0) (oi := ⟨some 7, _, _, _, _, _⟩) rfl (by kernel_rfl) (by kernel_rfl) (by kernel_rfl) (fun _ _ _ h => h) (by rfl) (fun w hSw => run_load_v4 rfl rfl (hAt.below hSw hrlt) rfl) hS (fun hS => ?_)
      try go_frame
      refine held_pure (i := 2) (oi := ⟨some 9, _, _, _, _, _⟩) rfl (by kernel_rfl) (by kernel_rfl) (by kernel_rfl) (fun _ _ _ h => h) (by rfl) (fun w hSw => run_load_int rfl rfl ((hSw.cell (p := ⟨Bm, 0, none⟩) hmlt).trans km)) hS (fun hS => ?_)
      try go_frame
      refine wpAnyH_ready (rs := [1]) (by kernel_rfl) (by simp) (AllReadyH.cons (o := ⟨some 8, _, _, _, _, _⟩) rfl (fun K hK => ?_) AllReadyH.nil)
      rw [if_pos (by rfl)]
      go_simp
      refine (c4size rs Ao co Ad cd _ ho1 hd2).mono ?_
      rintro e w1 ⟨rfl, x1⟩
      show K _ _
      refine hK.out _ _ (below_step hS x1) (fun hS => ?_)
      clear hK K
      try go_frame
      refine held_pure (i := 3) (oi := ⟨some 10, _, _, _, _, _⟩) rfl (by kernel_rfl) (by kernel_rfl) (by kernel_rfl) (fun _ _ _ h => h) (by rfl) (v := ?_) (fun w hSw => ?_) hS (fun hS => ?_)
      rotate_left
      · go_simp; try with_reducible rfl
      try go_frame
      refine wpAnyH_done (by kernel_rfl) ?_ _
      gi_wp2
      have hAt2 := hAt.below hS hrlt
      have hrlt2 : r < w1.heap.size := Nat.lt_of_lt_of_le hrlt hS.size
      have km2 := (hS.cell (p := ⟨Bm, 0, none⟩) hmlt).trans km
      have hmlt2 : Bm < w1.heap.size := Nat.lt_of_lt_of_le hmlt hS.size
      obtain ⟨H, hH⟩ : ∃ H, H = head4 rs := ⟨_, rfl⟩
      have HH := Lib.hid hH.symm
      have hHb : 20 ≤ H ∧ H ≤ 60 := by have := HC.out.opt.1; have e : head4 rs = 20 + (rs.opt.length : Int) := rfl; omega
      obtain ⟨z, hz⟩ : ∃ z, z = (room mtu rs).toNat := ⟨_, rfl⟩
      have HZ := Lib.hid (show room mtu rs = (z : Int) by omega)
      obtain ⟨D0, hD0⟩ : ∃ D0, D0 = mtu - H := ⟨_, rfl⟩
      have hrz : (z : Int) = D0 - D0 % 8 := by rw [← HZ.out, hD0, hH]; rfl
      have HD0 := Lib.hid hD0.symm
      have hD0b : 8 ≤ D0 ∧ D0 ≤ 65535 := by omega
      have hzb : 8 ≤ z ∧ z ≤ 65535 ∧ z < rs.dat.length := by omega
      have hz6 : z ≤ 1000000 := by omega
      have hz7 : ¬ cd = z := by omega
      have hzl := hzb.2.2
      have e8 : D0.tmod 8 = D0 % 8 := Int.tmod_eq_emod_of_nonneg (by omega)
      have e9 : wrap64 (D0 - D0 % 8) = (z : Int) := by rw [hrz]; unfold wrap64; omega
      have e10 : D0 - D0 % 8 = (z : Int) := hrz.symm
      obtain ⟨DZ, hDZ⟩ : ∃ DZ, DZ = rs.dat.take z := ⟨_, rfl⟩
      have HDZ : Hid (DZ.length = z) := Lib.hid (by rw [hDZ, List.length_take]; omega)
      have HP1 : Hid (part1 mtu rs = { rs with mf := true, dat := DZ }) := Lib.hid (by rw [hDZ, hz]; rfl)
      obtain ⟨DR, hDR⟩ : ∃ DR, DR = rs.dat.drop z := ⟨_, rfl⟩
      have HDR : Hid (DR.length = rs.dat.length - z) := Lib.hid (by rw [hDR, List.length_drop])
      obtain ⟨O1, hO1⟩ : ∃ O1, O1 = rs.off + (z : Int) := ⟨_, rfl⟩
      have HR1 : Hid (rest1 mtu o rs = { rs with off := O1, opt := o, dat := DR }) := Lib.hid (by rw [hDR, hO1, hz, rest1]; congr 1; omega)
      have HO1 : Hid (IntKind.i64.wrap (rs.off + (z : Int)) = O1) := Lib.hid (by obtain ⟨b1, _, b3, _⟩ := HC.out.off; rw [hO1]; exact IntWalk.i64_in _ (by omega))
      have HRS := Lib.hid (rst4_more (o := o) (mf := q.mf) HC.out hco HS.out)
      have NXT : Hid (∃ more, L = pre.map (·.q) ++ { rs with mf := true, dat := DZ } :: more) := Lib.hid ⟨_, by rw [HL.out, HRS.out, HP1.out]⟩
      have hS1 := hS
      have HDD := Lib.hid hDZ
      have HDE := Lib.hid hDR
      clear hS hz hD0 hDZ hDR hO1 hH hrz hrb hrl d1 d2
      refine wpIn_wide.2 ?_
      refine wp_region_held_drew (S := fun w' => Below w1.heap.size w1 w') (by kernel_rfl) (Below.refl _ w1).drew (fun hS => ?_)
      refine held_pure (i := 0) (oi := ⟨some 11, _, _, _, _, _⟩) rfl (by kernel_rfl) (by kernel_rfl) (by kernel_rfl) (fun _ _ _ h => h) (by rfl) (fun w hSw => run_load_int rfl rfl ((hSw.cell (p := ⟨Bm, 0, none⟩) hmlt2).trans km2)) hS (fun hS => ?_)
      try go_frame
      refine held_pure (i := 1) (oi := ⟨some 12, _, _, _, _, _⟩) rfl (by kernel_rfl) (by kernel_rfl) (by kernel_rfl) (fun _ _ _ h => h) (by rfl) (fun w hSw => run_load_v4 rfl rfl (hAt2.below hSw hrlt2) rfl) hS (fun hS => ?_)
      try go_frame
      refine wpAnyH_ready (rs := [2]) (by kernel_rfl) (by simp) (AllReadyH.cons (o := ⟨some 13, _, _, _, _, _⟩) rfl (fun K hK => ?_) AllReadyH.nil)
      rw [if_pos (by rfl)]
      go_simp
      refine (c4head rs Ao co Ad cd _ ho1).mono ?_
      rintro e w2 ⟨rfl, x2⟩
      rw [HH.out]
      show K _ _
      refine hK.out _ _ (below_step hS x2) (fun hS => ?_)
      clear hK K
      try go_frame
      refine held_pure (i := 3) (oi := ⟨some 14, _, _, _, _, _⟩) rfl (by kernel_rfl) (by kernel_rfl) (by kernel_rfl) (fun _ _ _ h => h) (by rfl) (v := .int .i64 D0) (fun w hSw => by go_simp; rw [HD0.out]; exact IntWalk.i64_in _ (by omega)) hS (fun hS => ?_)
      try go_frame
      refine held_pure (i := 4) (oi := ⟨some 5, _, _, _, _, _⟩) rfl (by kernel_rfl) (by kernel_rfl) (by kernel_rfl) (fun _ _ _ h => h) (by rfl) (v := ?_) (fun w hSw => ?_) hS (fun hS => ?_)
      rotate_left
      · go_simp; try with_reducible rfl
      try go_frame
      refine wpAnyH_done (by kernel_rfl) ?_ _
      have hX : Below wr.heap.size wr w2 := hS1.trans (hS.mono hS1.size)
      clear hS hS1 hAt2 hrlt2 km2 hmlt2
      gi_wp2
      have hrow5 := (hX.block r hrlt).trans hrow
      have hrlt5 : r < w2.heap.size := Nat.lt_of_lt_of_le hrlt hX.size
      have hJ5 := hJA' pre wr w2 none hJs (grown_none hX) (fun _ e => by cases e)
      have hK5 := hK.trans (Kp4.of_below hX (by omega))
      have hOp5 := ((Kp4.of_below hX (by omega)).opt hOp).arg (by omega)
      have hDt5 := (Kp4.of_below hX (by omega)).arg hDt
      have hDZ5 : Arg w2 w2.heap.size Ad cd DZ := by rw [HDD.out]; exact (hDt5.cut_hi z (by omega)).more (by omega)
      have hbase5 : base ≤ w2.drew.heap.size := by show base ≤ w2.heap.size; omega
      have hrowM := hrow
      clear hAt km hmw hmlt hrow hJs
      refine regionI (S := fun V => KeepS 24 26 11 w2 V) (by kernel_rfl) (KeepS.of_below (Below.refl _ w2).drew) (fun hS => ?_)
      refine pureI (i := 0) (oi := ⟨some 19, _, _, _, _, _⟩) rfl (by kernel_rfl) (by kernel_rfl) (by kernel_rfl) (fun _ _ _ h => h) (by rfl) (v := ?_) (fun w hSw => ?_) hS (fun hS => ?_)
      rotate_left
      · go_simp; try with_reducible rfl
      try go_frame
      refine pureI (i := 1) (oi := ⟨some 20, _, _, _, _, _⟩) rfl (by kernel_rfl) (by kernel_rfl) (by kernel_rfl) (fun _ _ _ h => h) (by rfl) (fun w hSw => run_load_v4 rfl rfl (at4_of (hSw.heap hrow5 hTt (by simp [v4a]))) rfl) hS (fun hS => ?_)
      try go_frame
      refine pureI (i := 2) (oi := ⟨some 21, _, _, _, _, _⟩) rfl (by kernel_rfl) (by kernel_rfl) (by kernel_rfl) (fun _ _ _ h => h) (by rfl) (v := ?_) (fun w hSw => ?_) hS (fun hS => ?_)
      rotate_left
      · go_simp; try with_reducible rfl
      try go_frame
      refine pureI (i := 3) (oi := ⟨some 22, _, _, _, _, _⟩) rfl (by kernel_rfl) (by kernel_rfl) (by kernel_rfl) (fun _ _ _ h => h) (by rfl) (fun w hSw => run_load_sl rfl rfl (at4_of (hSw.heap hrow5 hTt (by simp [v4a]))).dat) hS (fun hS => ?_)
      try go_frame
      refine pureI (i := 4) (oi := ⟨some 23, _, _, _, _, _⟩) rfl (by kernel_rfl) (by kernel_rfl) (by kernel_rfl) (fun _ _ _ h => h) (by rfl) (v := ?_) (fun w hSw => ?_) hS (fun hS => ?_)
      rotate_left
      · go_simp; try with_reducible rfl
      try go_frame
      refine pureI (i := 5) (oi := ⟨some 24, _, _, _, _, _⟩) rfl (by kernel_rfl) (by kernel_rfl) (by kernel_rfl) (fun _ _ _ h => h) (by rfl) (fun w hSw => run_cut_h (h := (z : Int)) rfl rfl rfl (by omega) (by omega) (m := z) (by omega)) hS (fun hS => ?_)
      try go_frame
      refine oneI (i := 6) (oi := ⟨some 25, _, _, _, _, _⟩) (by kernel_rfl) rfl (by rfl) (fun K hK => ?_)
      refine callI (f := 54) (args := #[v4v rs Ao co Ad cd, .slice Ad z cd, .bool true]) (by go_simp; try rfl) ?_
      refine (c13partN rs Ao co Ad cd Ad cd DZ z true _ w2.heap.size HDZ (hOp5.below (Below.refl _ w2).drew) (hDZ5.below (Below.refl _ w2).drew) (Nat.le_refl _) ho1 hz6).mono ?_
      rintro e w6 ⟨P, p, P', p', rfl, own6, x6⟩
      refine ⟨_, rfl, hK _ _ (hS.trans (KeepS.of_below x6)) (fun hS => ?_)⟩
      clear hK K
      try go_frame
      refine oneI (i := 7) (oi := ⟨some 26, _, _, _, _, _⟩) (by kernel_rfl) rfl (by rfl) (fun K hK => ?_)
      refine yieldI (l := l) (args := enc4 ⟨{ rs with mf := true, dat := DZ }, P, p, P', p'⟩) (by go_simp; try rfl) (hY pre ⟨{ rs with mf := true, dat := DZ }, P, p, P', p'⟩ w6 (hJA' pre _ w6 none hJ5 (grown_none ((Below.refl _ w2).drew.trans x6)) (fun _ e => by cases e)) ⟨NXT.out, own6.base_ hbase5⟩ (by have := x6.size; exact Nat.lt_of_lt_of_le hrlt5 this)) ?_
      rintro e W3 ⟨rfl, hJ3, hk3⟩
      refine ⟨_, rfl, hK _ _ (hS.trans hk3.1) (fun hS => ?_)⟩
      clear hK K
      try go_frame
      refine pureI (i := 8) (oi := ⟨some 27, _, _, _, _, _⟩) rfl (by kernel_rfl) (by kernel_rfl) (by kernel_rfl) (fun _ _ _ h => h) (by rfl) (v := ?_) (fun w hSw => ?_) hS (fun hS => ?_)
      rotate_left
      · go_simp; try with_reducible rfl
      try go_frame
      refine doneI (by kernel_rfl) ?_ _
      gi_wp2
      have hrow3 := hS.heap hrow5 hTt (by simp [v4a])
      have hK36 : Kp4 B w2 W3 := ⟨hS, (KeepP.of_below ((Below.refl _ w2).drew.trans x6) (fun k hk => by show k < w2.heap.size; omega)).trans hk3.2⟩
      have hK3 := hK5.trans hK36
      have hOp3 := hK36.opt ((Kp4.of_below hX (by omega)).opt hOp)
      have hDt3 := hK36.arg hDt5
      have hrlt3 : r < W3.heap.size := Nat.lt_of_lt_of_le hrlt5 hS.size
      have k2 : W3.drew.cell? ⟨r, 2, none⟩ = some (.int .i64 rs.off) := (at4_of hrow3).off
      have f2 : W3.drew.frozen? ⟨r, 2, none⟩ = false := heap_frozen hrow3 2
      have k10 : W3.drew.cell? ⟨r, 10, none⟩ = some (.slice Ad rs.dat.length cd) := (at4_of hrow3).dat
      have f10 : W3.drew.frozen? ⟨r, 10, none⟩ = false := heap_frozen hrow3 10
      clear hS hK36 hX hJ5 hOp hDt hOp5 hDZ5 hrow5 own6 x6 hk3 hK hK5
      refine wpIn_wide.2 ?_
      refine wp_region_held_drew (S := fun _ => True) (by kernel_rfl) trivial (fun hS => ?_)
      refine held_pure (i := 0) (oi := ⟨some 28, _, _, _, _, _⟩) rfl (by kernel_rfl) (by kernel_rfl) (by kernel_rfl) (fun _ _ _ h => h) (by rfl) (v := ?_) (fun w hSw => ?_) hS (fun hS => ?_)
      rotate_left
      · go_simp; try with_reducible rfl
      try go_frame
      refine held_pure (i := 2) (oi := ⟨some 30, _, _, _, _, _⟩) rfl (by kernel_rfl) (by kernel_rfl) (by kernel_rfl) (fun _ _ _ h => h) (by rfl) (v := ?_) (fun w hSw => ?_) hS (fun hS => ?_)
      rotate_left
      · go_simp; try with_reducible rfl
      try go_frame
      refine held_pure (i := 4) (oi := ⟨some 32, _, _, _, _, _⟩) rfl (by kernel_rfl) (by kernel_rfl) (by kernel_rfl) (fun _ _ _ h => h) (by rfl) (v := ?_) (fun w hSw => ?_) hS (fun hS => ?_)
      rotate_left
      · go_simp; try with_reducible rfl
      try go_frame
      refine held_pure (i := 6) (oi := ⟨some 34, _, _, _, _, _⟩) rfl (by kernel_rfl) (by kernel_rfl) (by kernel_rfl) (fun _ _ _ h => h) (by rfl) (v := ?_) (fun w hSw => ?_) hS (fun hS => ?_)
      rotate_left
      · go_simp; try with_reducible rfl
      try go_frame
      refine wpAnyH_ready (rs := [1, 5]) (by kernel_rfl) (by simp) (AllReadyH.cons (o := ⟨some 29, _, _, _, _, _⟩) rfl (fun K hK => ?_) (AllReadyH.cons (o := ⟨some 33, _, _, _, _, _⟩) rfl (fun K hK => ?_) AllReadyH.nil))
      · rw [if_pos (by rfl)]
        refine wp_valU (v := .int .i64 rs.off) (run_load_int rfl rfl k2) ?_
        refine hK.out _ _ trivial (fun hS => ?_)
        clear hK K
        try go_frame
        refine held_pure (i := 3) (oi := ⟨some 31, _, _, _, _, _⟩) rfl (by kernel_rfl) (by kernel_rfl) (by kernel_rfl) (fun _ _ _ h => h) (by rfl) (v := .int .i64 O1) (fun w hSw => by go_simp; exact HO1.out) hS (fun hS => ?_)
        try go_frame
        refine wpAnyH_ready (rs := [5]) (by kernel_rfl) (by simp) (AllReadyH.cons (o := ⟨some 33, _, _, _, _, _⟩) rfl (fun K hK => ?_) AllReadyH.nil)
        rw [if_pos (by rfl)]
        refine wp_valU (v := .slice Ad rs.dat.length cd) (run_load_sl rfl rfl k10) ?_
        refine hK.out _ _ trivial (fun hS => ?_)
        clear hK K
        try go_frame
        refine held_pure (i := 7) (oi := ⟨some 35, _, _, _, _, _⟩) rfl (by kernel_rfl) (by kernel_rfl) (by kernel_rfl) (fun _ _ _ h => h) (by rfl) (fun w hSw => run_cut_l rfl rfl (l := z) rfl (by omega) (m := DR.length) (by have := HDR.out; omega)) hS (fun hS => ?_)
        try go_frame
        refine held_pure (i := 8) (oi := ⟨some 36, _, _, _, _, _⟩) rfl (by kernel_rfl) (by kernel_rfl) (by kernel_rfl) (fun _ _ _ h => h) (by rfl) (v := ?_) (fun w hSw => ?_) hS (fun hS => ?_)
        rotate_left
        · go_simp; try with_reducible rfl
        try go_frame
        refine wpAnyH_ready (rs := [9]) (by kernel_rfl) (by simp) (AllReadyH.cons (o := ⟨none, _, _, _, _, _⟩) rfl (fun K hK => ?_) AllReadyH.nil)
        rw [if_pos (by rfl)]
        refine store_int_wp rfl rfl rfl k2 f2 ?_
        have hrow9 : (W3.drew.setCell ⟨r, 2, none⟩ (.int .i64 O1)).heap[r]? = some (.cells (v4a { rs with off := O1 } Ao co Ad cd) 24 (0, 0)) := heap_setCell_same W3.drew r 2 _ _ (.int .i64 O1) hrow3
        have hk8 : KeepR r W3 (W3.drew.setCell ⟨r, 2, none⟩ (.int .i64 O1)) := KeepR.set1 _ _ _
        clear k2 f2 k10 f10
        generalize W3.drew.setCell ⟨r, 2, none⟩ (.int .i64 O1) = V9 at *
        have k10 : V9.cell? ⟨r, 10, none⟩ = some (.slice Ad rs.dat.length cd) := (at4_of hrow9).dat
        have f10 := heap_frozen hrow9 10
        refine hK.out _ _ trivial (fun hS => ?_)
        clear hK K
        try go_frame
        refine held_pure (i := 10) (oi := ⟨some 37, _, _, _, _, _⟩) rfl (by kernel_rfl) (by kernel_rfl) (by kernel_rfl) (fun _ _ _ h => h) (by rfl) (v := ?_) (fun w hSw => ?_) hS (fun hS => ?_)
        rotate_left
        · go_simp; try with_reducible rfl
        try go_frame
        refine wpAnyH_ready (rs := [11]) (by kernel_rfl) (by simp) (AllReadyH.cons (o := ⟨none, _, _, _, _, _⟩) rfl (fun K hK => ?_) AllReadyH.nil)
        rw [if_pos (by rfl)]
        refine store_slU rfl rfl rfl k10 f10 ?_
        refine hK.out _ _ trivial (fun hS => ?_)
        clear hK K
        try go_frame
        refine wpAnyH_done (by kernel_rfl) ?_ _
        have hrow7 : (V9.setCell ⟨r, 10, none⟩ (.slice (cutA Ad cd z) DR.length (cd - z))).heap[r]? = some (.cells (v4a { rs with off := O1, dat := DR } Ao co (cutA Ad cd z) (cd - z)) 24 (0, 0)) := heap_setCell_same V9 r 10 _ _ (.slice (cutA Ad cd z) DR.length (cd - z)) hrow9
        have hk9 : KeepR r W3 (V9.setCell ⟨r, 10, none⟩ (.slice (cutA Ad cd z) DR.length (cd - z))) := (KeepR.set2 _ _ _).trans hk8
        clear hrow9 k10 f10
        have hpV : (V9.setCell ⟨r, 10, none⟩ (.slice (cutA Ad cd z) DR.length (cd - z))).heap[Bp]? = some (.cells (v4a q A c A' c') 24 (0, 0)) := (hk9.2.2.2.2 Bp (by omega)).trans (hK3.1.heap hp hTt (by simp [v4a]))
        generalize V9.setCell ⟨r, 10, none⟩ (.slice (cutA Ad cd z) DR.length (cd - z)) = V at *
        have kp9 := (at4_of hpV).opt
        have hOV := hk9.arg (show B ≤ r by omega) (hK3.arg hO)
        have hDV := hk9.arg (show B ≤ r by omega) hDt3
        have hzV := hk9.1
        have hcp := c13copied A q.opt c B V hOV (by omega) (by omega)
        rw [← HOO.out] at hcp
        gi_wp2_with (refine ⟨trivial, ?_⟩; gi_at_call 13; refine (callsIn_wide.2 hcp).mono ?_; rintro e w7 ⟨v7, rfl, m7⟩; obtain ⟨P7, p7, rfl, g7, o7, x7⟩ := made_shape m7; have hrow8 := (x7.block r (by omega)).trans hrow7; have k9 : w7.cell? ⟨r, 9, none⟩ = some (.slice Ao rs.opt.length co) := (at4_of hrow8).opt; have f9 := heap_frozen hrow8 9)
        have hrow10 : (w7.setCell ⟨r, 9, none⟩ (.slice P7 o.length p7)).heap[r]? = some (.cells (v4a { rs with off := O1, opt := o, dat := DR } P7 p7 (cutA Ad cd z) (cd - z)) 24 (0, 0)) := heap_setCell_same w7 r 9 _ _ (.slice P7 o.length p7) hrow8
        have hk10 : KeepR r w7 (w7.setCell ⟨r, 9, none⟩ (.slice P7 o.length p7)) := KeepR.set2 _ _ _
        have hJV := hJA' _ W3 V (some r) hJ3 hk9.grown (fun _ e => by cases e; exact .inr ⟨rfl, _, hrow3⟩)
        have hJ7 := hJA' _ V w7 none hJV (grown_none x7) (fun _ e => by cases e)
        have hJ8 := hJA' _ w7 _ (some r) hJ7 hk10.grown (fun _ e => by cases e; exact .inr ⟨rfl, _, hrow8⟩)
        have hKV := hK3.set (Nat.le_refl _) (show B ≤ r by omega) hrV hk9
        have hK7 := hKV.trans (Kp4.of_below x7 (by omega))
        have hK8 := hK7.set (Nat.le_refl _) (show B ≤ r by omega) hrV hk10
        go_roundw
        case rel =>
          refine ⟨{ rs with off := O1, opt := o, dat := DR }, P7, p7, cutA Ad cd z, cd - z, pre ++ [⟨{ rs with mf := true, dat := DZ }, P, p, P', p'⟩], Lib.hid ?_, Lib.hid ?_, hrow10, .inr ?_, ?_, hJ8, hK8, ?_⟩
          · rw [HL.out, HRS.out, HP1.out, HR1.out, List.map_append, List.append_assoc]; rfl
          · rw [← HR1.out]; exact HC.out.rest HS.out hco
          · exact own_base (hk10.own hrow8 hTu o7) (by omega)
          · refine hk10.arg (by omega) ?_
            have hcu := (hDV.cut_lo z).below (x7.mono (show B ≤ V.heap.size by omega))
            rwa [← HDE.out] at hcu
          · have := hk10.1; have := x7.size; omega
        case measure =>
          rw [dlen_row hrow10, dlen_row hrowM]
          show DR.length < _
          have := HDR.out; omega
      · rw [if_pos (by rfl)]
        refine wp_valU (v := .slice Ad rs.dat.length cd) (run_load_sl rfl rfl k10) ?_
        refine hK.out _ _ trivial (fun hS => ?_)
        clear hK K
        try go_frame
        refine held_pure (i := 7) (oi := ⟨some 35, _, _, _, _, _⟩) rfl (by kernel_rfl) (by kernel_rfl) (by kernel_rfl) (fun _ _ _ h => h) (by rfl) (fun w hSw => run_cut_l rfl rfl (l := z) rfl (by omega) (m := DR.length) (by have := HDR.out; omega)) hS (fun hS => ?_)
        try go_frame
        refine wpAnyH_ready (rs := [1]) (by kernel_rfl) (by simp) (AllReadyH.cons (o := ⟨some 29, _, _, _, _, _⟩) rfl (fun K hK => ?_) AllReadyH.nil)
        rw [if_pos (by rfl)]
        refine wp_valU (v := .int .i64 rs.off) (run_load_int rfl rfl k2) ?_
        refine hK.out _ _ trivial (fun hS => ?_)
        clear hK K
        try go_frame
        refine held_pure (i := 3) (oi := ⟨some 31, _, _, _, _, _⟩) rfl (by kernel_rfl) (by kernel_rfl) (by kernel_rfl) (fun _ _ _ h => h) (by rfl) (v := .int .i64 O1) (fun w hSw => by go_simp; exact HO1.out) hS (fun hS => ?_)
        try go_frame
        refine held_pure (i := 8) (oi := ⟨some 36, _, _, _, _, _⟩) rfl (by kernel_rfl) (by kernel_rfl) (by kernel_rfl) (fun _ _ _ h => h) (by rfl) (v := ?_) (fun w hSw => ?_) hS (fun hS => ?_)
        rotate_left
        · go_simp; try with_reducible rfl
        try go_frame
        refine wpAnyH_ready (rs := [9]) (by kernel_rfl) (by simp) (AllReadyH.cons (o := ⟨none, _, _, _, _, _⟩) rfl (fun K hK => ?_) AllReadyH.nil)
        rw [if_pos (by rfl)]
        refine store_int_wp rfl rfl rfl k2 f2 ?_
        have hrow9 : (W3.drew.setCell ⟨r, 2, none⟩ (.int .i64 O1)).heap[r]? = some (.cells (v4a { rs with off := O1 } Ao co Ad cd) 24 (0, 0)) := heap_setCell_same W3.drew r 2 _ _ (.int .i64 O1) hrow3
        have hk8 : KeepR r W3 (W3.drew.setCell ⟨r, 2, none⟩ (.int .i64 O1)) := KeepR.set1 _ _ _
        clear k2 f2 k10 f10
        generalize W3.drew.setCell ⟨r, 2, none⟩ (.int .i64 O1) = V9 at *
        have k10 : V9.cell? ⟨r, 10, none⟩ = some (.slice Ad rs.dat.length cd) := (at4_of hrow9).dat
        have f10 := heap_frozen hrow9 10
        refine hK.out _ _ trivial (fun hS => ?_)
        clear hK K
        try go_frame
        refine held_pure (i := 10) (oi := ⟨some 37, _, _, _, _, _⟩) rfl (by kernel_rfl) (by kernel_rfl) (by kernel_rfl) (fun _ _ _ h => h) (by rfl) (v := ?_) (fun w hSw => ?_) hS (fun hS => ?_)
        rotate_left
        · go_simp; try with_reducible rfl
        try go_frame
        refine wpAnyH_ready (rs := [11]) (by kernel_rfl) (by simp) (AllReadyH.cons (o := ⟨none, _, _, _, _, _⟩) rfl (fun K hK => ?_) AllReadyH.nil)
        rw [if_pos (by rfl)]
        refine store_slU rfl rfl rfl k10 f10 ?_
        refine hK.out _ _ trivial (fun hS => ?_)
        clear hK K
        try go_frame
        refine wpAnyH_done (by kernel_rfl) ?_ _
        have hrow7 : (V9.setCell ⟨r, 10, none⟩ (.slice (cutA Ad cd z) DR.length (cd - z))).heap[r]? = some (.cells (v4a { rs with off := O1, dat := DR } Ao co (cutA Ad cd z) (cd - z)) 24 (0, 0)) := heap_setCell_same V9 r 10 _ _ (.slice (cutA Ad cd z) DR.length (cd - z)) hrow9
        have hk9 : KeepR r W3 (V9.setCell ⟨r, 10, none⟩ (.slice (cutA Ad cd z) DR.length (cd - z))) := (KeepR.set2 _ _ _).trans hk8
        clear hrow9 k10 f10
        have hpV : (V9.setCell ⟨r, 10, none⟩ (.slice (cutA Ad cd z) DR.length (cd - z))).heap[Bp]? = some (.cells (v4a q A c A' c') 24 (0, 0)) := (hk9.2.2.2.2 Bp (by omega)).trans (hK3.1.heap hp hTt (by simp [v4a]))
        generalize V9.setCell ⟨r, 10, none⟩ (.slice (cutA Ad cd z) DR.length (cd - z)) = V at *
        have kp9 := (at4_of hpV).opt
        have hOV := hk9.arg (show B ≤ r by omega) (hK3.arg hO)
        have hDV := hk9.arg (show B ≤ r by omega) hDt3
        have hzV := hk9.1
        have hcp := c13copied A q.opt c B V hOV (by omega) (by omega)
        rw [← HOO.out] at hcp
        gi_wp2_with (refine ⟨trivial, ?_⟩; gi_at_call 13; refine (callsIn_wide.2 hcp).mono ?_; rintro e w7 ⟨v7, rfl, m7⟩; obtain ⟨P7, p7, rfl, g7, o7, x7⟩ := made_shape m7; have hrow8 := (x7.block r (by omega)).trans hrow7; have k9 : w7.cell? ⟨r, 9, none⟩ = some (.slice Ao rs.opt.length co) := (at4_of hrow8).opt; have f9 := heap_frozen hrow8 9)
        have hrow10 : (w7.setCell ⟨r, 9, none⟩ (.slice P7 o.length p7)).heap[r]? = some (.cells (v4a { rs with off := O1, opt := o, dat := DR } P7 p7 (cutA Ad cd z) (cd - z)) 24 (0, 0)) := heap_setCell_same w7 r 9 _ _ (.slice P7 o.length p7) hrow8
        have hk10 : KeepR r w7 (w7.setCell ⟨r, 9, none⟩ (.slice P7 o.length p7)) := KeepR.set2 _ _ _
        have hJV := hJA' _ W3 V (some r) hJ3 hk9.grown (fun _ e => by cases e; exact .inr ⟨rfl, _, hrow3⟩)
        have hJ7 := hJA' _ V w7 none hJV (grown_none x7) (fun _ e => by cases e)
        have hJ8 := hJA' _ w7 _ (some r) hJ7 hk10.grown (fun _ e => by cases e; exact .inr ⟨rfl, _, hrow8⟩)
        have hKV := hK3.set (Nat.le_refl _) (show B ≤ r by omega) hrV hk9
        have hK7 := hKV.trans (Kp4.of_below x7 (by omega))
        have hK8 := hK7.set (Nat.le_refl _) (show B ≤ r by omega) hrV hk10
        go_roundw
        case rel =>
          refine ⟨{ rs with off := O1, opt := o, dat := DR }, P7, p7, cutA Ad cd z, cd - z, pre ++ [⟨{ rs with mf := true, dat := DZ }, P, p, P', p'⟩], Lib.hid ?_, Lib.hid ?_, hrow10, .inr ?_, ?_, hJ8, hK8, ?_⟩
          · rw [HL.out, HRS.out, HP1.out, HR1.out, List.map_append, List.append_assoc]; rfl
          · rw [← HR1.out]; exact HC.out.rest HS.out hco
          · exact own_base (hk10.own hrow8 hTu o7) (by omega)
          · refine hk10.arg (by omega) ?_
            have hcu := (hDV.cut_lo z).below (x7.mono (show B ≤ V.heap.size by omega))
            rwa [← HDE.out] at hcu
          · have := hk10.1; have := x7.size; omega
        case measure =>
          rw [dlen_row hrow10, dlen_row hrowM]
          show DR.length < _
          have := HDR.out; omega
    · have d1 : decide (size4 rs > mtu) = false := by simpa using hs
      have d2 : decide (mtu < size4 rs) = false := by simpa using hs
      have HE := Lib.hid (show L = pre.map (·.q) ++ [{ rs with mf := q.mf, dat := rs.dat }] by rw [HL.out, rst4_last hs])
      have NXT : Hid (∃ more, L = pre.map (·.q) ++ { rs with mf := q.mf, dat := rs.dat } :: more) := Lib.hid ⟨[], HE.out⟩
      clear hs
      gi_wp2
      refine wpIn_wide.2 ?_
      refine wp_region_held_drew (S := fun w' => Below wr.heap.size wr w') (by kernel_rfl) (Below.refl _ wr).drew (fun hS => ?_)
      refine held_pure (i := 0) (oi := ⟨some 7, _, _, _, _, _⟩) rfl (by kernel_rfl) (by kernel_rfl) (by kernel_rfl) (fun _ _ _ h => h) (by rfl) (fun w hSw => run_load_v4 rfl rfl (hAt.below hSw hrlt) rfl) hS (fun hS => ?_)
      try go_frame
      refine held_pure (i := 2) (oi := ⟨some 9, _, _, _, _, _⟩) rfl (by kernel_rfl) (by kernel_rfl) (by kernel_rfl) (fun _ _ _ h => h) (by rfl) (fun w hSw => run_load_int rfl rfl ((hSw.cell (p := ⟨Bm, 0, none⟩) hmlt).trans km)) hS (fun hS => ?_)
      try go_frame
      refine wpAnyH_ready (rs := [1]) (by kernel_rfl) (by simp) (AllReadyH.cons (o := ⟨some 8, _, _, _, _, _⟩) rfl (fun K hK => ?_) AllReadyH.nil)
      rw [if_pos (by rfl)]
      go_simp
      refine (c4size rs Ao co Ad cd _ ho1 hd2).mono ?_
      rintro e w1 ⟨rfl, x1⟩
      show K _ _
      refine hK.out _ _ (below_step hS x1) (fun hS => ?_)
      clear hK K
      try go_frame
      refine held_pure (i := 3) (oi := ⟨some 10, _, _, _, _, _⟩) rfl (by kernel_rfl) (by kernel_rfl) (by kernel_rfl) (fun _ _ _ h => h) (by rfl) (v := ?_) (fun w hSw => ?_) hS (fun hS => ?_)
      rotate_left
      · go_simp; try with_reducible rfl
      try go_frame
      refine wpAnyH_done (by kernel_rfl) ?_ _
      have hAt2 := hAt.below hS hrlt
      have hrlt2 : r < w1.heap.size := Nat.lt_of_lt_of_le hrlt hS.size
      have kd2 := hAt2.dat
      have kp8 := (at4_of ((hS.block Bp (by omega)).trans (hK.1.heap hp hTt (by simp [v4a])))).mf
      have hJ2 := hJA' pre wr w1 none hJs (grown_none hS) (fun _ e => by cases e)
      have hOp2 := ((Kp4.of_below hS (by omega)).opt hOp).arg (by omega)
      have hDt2 := ((Kp4.of_below hS (by omega)).arg hDt).more (show B ≤ w1.heap.size by omega)
      clear hS hAt km hmw hmlt hrow hJs hOp hDt hK
      gi_wp2_with (first
        | ((with_reducible show wpListIn _ _ _ _ _ (Oper.mk _ (Op.load 24 _) _ _ _ _ :: _) _ _); refine listI_val rfl (run_load_v4 rfl rfl hAt2 rfl) ?_)
        | (refine ⟨trivial, ?_⟩; gi_at_call 54; refine (callsIn_wide.2 (c13part rs Ao co Ad cd Ad cd rs.dat q.mf w1 w1.heap.size hOp2 hDt2 (Nat.le_refl _) ho1 hd2)).mono ?_; rintro e w6 ⟨P, p, P', p', rfl, own6, x6⟩; have hY2 := hY pre ⟨{ rs with mf := q.mf, dat := rs.dat }, P, p, P', p'⟩ w6 (hJA' pre _ w6 none hJ2 (grown_none x6) (fun _ e => by cases e)) ⟨NXT.out, own6.base_ (by omega)⟩ (Nat.lt_of_lt_of_le hrlt2 x6.size); obtain ⟨fn, tmps, assign, body, hy, hR⟩ := hY2; dsimp only [enc4] at hy))
      refine hR.mono ?_
      rintro e W3 ⟨rfl, hJ3, hk3⟩
      clear hy hR
      gi_wp2
      try rw [Exit.noGoto_normal]
      go_end0
      exact ⟨⟨_, rfl⟩, _, by rw [List.map_append, HE.out]; rfl, hJ3⟩
end Go.Proofs.Ytcebobcakiljhaa

/-
  Contracts of cut4's fragments and Cut. Conditions are each theorem's own.
-/
namespace Go.Proofs.Ytcebobcakiljhaa
open Go.RowKit Go.Shelf
attribute [local go_sem] Oper.semAt_some

theorem listI_valw {n : Nat} {P : Program} {ops : Array Oper} {rest : List Oper} {o : Oper} {a : Act} {w : World} {Q : Exit → Act → World → Prop} {v : Value} (hw : Region.wanted o (yielded ops a.tmps) = true) (hrun : (execOp a.eval o).run P w = .ok (.value v) w)
    (h : wpListIn Fence.wide n P ops Q rest (a.put o.dst v) w) : wpListIn Fence.wide n P ops Q (o :: rest) a w := by
  unfold wpListIn
  rw [if_pos hw]
  exact ⟨fun _ _ => trivial, by rw [show Fence.wide.round = none from rfl, Oper.semAt_none, hrun]; exact h⟩
theorem v4v_eq4 (q : P4) (A : Option Addr) (c : Nat) (A' : Option Addr) (c' : Nat) : v4v q A c A' c' = .agg (v4a q A c A' c') := rfl
theorem Kp4.loop {B l : Nat} {X : World} {r r' : Loop} (hr : X.heap[l]? = some (.loop r)) (hB : B ≤ l) : Kp4 B X (X.putObj l (.loop r')) := ⟨KeepS.loop hr, KeepP.loop (by omega)⟩
theorem info_v4 : (Try.prog.info? 24).map (fun i => (i.zero, i.size, i.bytes)) = some (some (v4v p4z none 0 none 0), 11, 112) := by kernel_rfl
theorem run_bs4 {o : Oper} {a : Act} {w : World} {x : Operand} {cs : Array Value} (ho : o.op = .buildSlice 26 1 #[(0, x)]) (hx : a.eval x = .agg cs) (hl : cs.size = 11) :
    (execOp a.eval o).run Try.prog w = .ok (.value (.slice (some ⟨w.heap.size, 0, none⟩) 1 1)) (w.alloc (.cells cs 24)) := by
  obtain ⟨i0, hi, hz0, hz1, hz2⟩ := info_parts info_v4
  have h := run_lit1 (P := Try.prog) w 26 24 i0 (v4v p4z none 0 none 0) cs 11 Try.underlying26 hi hz0 hz1 hl (by decide) (by decide)
  unfold execOp
  simp only [ho, List.map_toArray, List.map_cons, List.map_nil, hx, Sem.run_bind, h, Result.andThen_ok]
  rfl
theorem cells_new4 (X : World) (x : X4) : ∀ j u, (cl4 x)[j]? = some u → (X.alloc (.cells (v4a x.q x.A x.c x.A' x.c') 24)).cell? ((⟨X.heap.size, 0, none⟩ : Addr).add j) = some u := fun j u hu => by
  rw [add_off, Nat.zero_add, World.cell?_alloc_new, ← Array.getElem?_toList]; exact hu
/-- A slice of packets that owns its row, and whose packets own their lists. -/
def Row4 (V : World) (base : Nat) (v : Value) (l : List X4) : Prop := V.ownsRow base 24 11 v l.length (l.flatMap cl4) ∧ ∀ x ∈ l, Own4 V base x
theorem Row4.nil (V : World) (base : Nat) : Row4 V base (.slice none 0 0) [] := ⟨World.ownsRow_nil _ _ _ _, fun x h => by cases h⟩
theorem Row4.mark {V : World} {base D : Nat} {v : Value} {l : List X4} {o : Option (List Deferred)} (h : Row4 V base v l) (h2 : V.heap[D]? = some (.deferred o)) : Row4 (V.putObj D (.deferred none)) base v l :=
  ⟨ownsRow_putObj h.1 _ h2 rfl, fun x hx => ⟨ownsRow_putObj (h.2 x hx).1 _ h2 rfl, ownsRow_putObj (h.2 x hx).2 _ h2 rfl⟩⟩
theorem Row4.below {V Y : World} {base : Nat} {v : Value} {l : List X4} (h : Row4 V base v l) (hb : Below V.heap.size V Y) : Row4 Y base v l := ⟨own_below h.1 hb, fun x hx => (h.2 x hx).below hb⟩
/-- What a box holds while packets come; block r is not its row. -/
def InBox (V : World) (base b7 r : Nat) (pre : List X4) : Prop :=
  ∃ v, Boxed V b7 26 v ∧ V.ownsRow base 24 11 v pre.length (pre.flatMap cl4) ∧ (pre = [] → v = .slice none 0 0) ∧ v.ownBlock ≠ some r ∧ ∀ x ∈ pre, Own4 V base x
theorem InBox.nil {V : World} {base b7 r : Nat} (h : Boxed V b7 26 (.slice none 0 0)) : InBox V base b7 r [] := ⟨_, h, World.ownsRow_nil _ _ _ _, fun _ => rfl, (by simp [Value.ownBlock]), fun x h => by cases h⟩
theorem InBox.turn {V Y : World} {base b7 r : Nat} {pre : List X4} {row : Option Nat} (h : InBox V base b7 r pre) (hg : V.grownBy Y row) (hr : ∀ k, row = some k → ∃ o : Obj, V.heap[k]? = some o ∧ o.isCells = false) : InBox Y base b7 r pre := by
  obtain ⟨v, h1, h2, h3, h4, h5⟩ := h
  refine ⟨v, h1.kept hg (fun e' => ?_), h2.kept hg ?_, h3, h4, fun x hx => (h5 x hx).turn hg hr⟩
  · obtain ⟨o, ho, hc⟩ := hr b7 e'.symm
    rw [show V.heap[b7]? = _ from h1] at ho; cases ho; cases hc
  · rcases h2.2 with ⟨rfl, _⟩ | ⟨g, cap, cur, rfl, _, hgb, _⟩
    · exact .inl rfl
    · refine .inr fun e' => ?_
      obtain ⟨o, ho, hc⟩ := hr g (by simpa [Value.ownBlock] using e'.symm)
      rw [hgb] at ho; cases ho; cases hc
theorem InBox.own2 {V Y : World} {base b7 r k : Nat} {pre : List X4} {cs : Array Value} (h : InBox V base b7 r pre) (hg : V.grownBy Y (some k)) (hk : k = r) (hc : V.heap[k]? = some (.cells cs 24 (0, 0))) : InBox Y base b7 r pre := by
  subst hk
  obtain ⟨v, h1, h2, h3, h4, h5⟩ := h
  have key : ∀ {v : Value} {n : Nat} {xs : List Value}, V.ownsRow base 5 1 v n xs → Y.ownsRow base 5 1 v n xs := fun {v n xs} h => by
    refine h.kept hg ?_
    rcases h.2 with ⟨rfl, _⟩ | ⟨g, cap, cur, rfl, _, hgb, _⟩
    · exact .inl rfl
    · refine .inr fun e' => ?_
      have e2 : g = k := by simpa [Value.ownBlock] using e'
      subst e2
      rw [hgb] at hc; cases hc
  refine ⟨v, h1.kept hg (fun e' => ?_), h2.kept hg (.inr h4), h3, h4, fun x hx => ⟨key (h5 x hx).1, key (h5 x hx).2⟩⟩
  injection e' with e'
  subst e'
  have := (show V.heap[b7]? = _ from h1).symm.trans hc
  cases this
theorem frg_len (mtu : Int) (o : List UInt8) (mf : Bool) : ∀ (f : Nat) (q : P4), (frg mtu o mf f q).length ≤ f
  | 0, _ => Nat.le_refl _
  | f + 1, q => by
    rw [frg]; split
    · have := frg_len mtu o mf f (rest1 mtu o q); simp; omega
    · simp
theorem rst4_len (mtu : Int) (o : List UInt8) (mf : Bool) (q : P4) : (rst4 mtu o mf q).length ≤ q.dat.length + 1 := frg_len mtu o mf _ q
theorem frags_any (q : P4) (A : Option Addr) (c : Nat) (A' : Option Addr) (c' : Nat) (mtu : Int) (base B : Nat) (w : World) (hcut : Cuttable mtu q) (hco : (copied q.opt).length ≤ 40 ∧ (copied q.opt).length % 4 = 0) (hO : Arg w B A c q.opt) (hD : Arg w B A' c' q.dat) (hBb : B ≤ base) (hbw : base ≤ w.heap.size) :
    Calls Try.prog 29 #[v4v q A c A' c', .int .i64 mtu] w fun e w' => ∃ Bp Bm, e = .returned (.func (.func 53) #[] #[.pointer (some ⟨Bp, 0, none⟩), .pointer (some ⟨Bm, 0, none⟩)]) ∧ Below w.heap.size w w' ∧
      (∀ m, 1 ≤ m → SeqAll m Try.prog 24 53 #[.pointer (some ⟨Bp, 0, none⟩), .pointer (some ⟨Bm, 0, none⟩)] enc4 (G4 (rst4 mtu (copied q.opt) q.mf q) base) (Kp4 B) (fun xs => xs.map (·.q) = rst4 mtu (copied q.opt) q.mf q) w') := by
  rw [v4v_eq4]
  have hB : Below w.heap.size w ((w.alloc (.cells (v4a q A c A' c') 24)).alloc (.cells #[.int .i64 mtu] 3)) := ((Below.refl _ w).alloc (Nat.le_refl _) _).alloc (by simp) _
  have hp0 : ((w.alloc (.cells (v4a q A c A' c') 24)).alloc (.cells #[.int .i64 mtu] 3)).heap[w.heap.size]? = some (.cells (v4a q A c A' c') 24 (0, 0)) := (Below.heap_alloc (w.alloc (.cells (v4a q A c A' c') 24)) _ w.heap.size (by simp)).trans (World.alloc_heap_new w _)
  have hm0 : Boxed ((w.alloc (.cells (v4a q A c A' c') 24)).alloc (.cells #[.int .i64 mtu] 3)) (w.heap.size + 1) 3 (.int .i64 mtu) := by
    have := Boxed.new (w.alloc (.cells (v4a q A c A' c') 24)) 3 (.int .i64 mtu)
    rwa [World.size_alloc] at this
  go_enter Try.func29, Try.ntmps29
  go_wp2
  go_ret
  have hz : ((w.alloc (.cells (v4a q A c A' c') 24)).alloc (.cells #[.int .i64 mtu] 3)).heap.size = w.heap.size + 2 := by simp
  generalize (w.alloc (.cells (v4a q A c A' c') 24)).alloc (.cells #[.int .i64 mtu] 3) = V at *
  refine ⟨w.heap.size, w.heap.size + 1, rfl, hB, fun m hm l J W hW hJa hY hJ => ?_⟩
  have hWs := hW.size
  have hBW := hB.trans (hW.mono (by omega))
  exact frs1_in m hm l w.heap.size (w.heap.size + 1) base B q A c A' c' mtu hcut hco J W (hO.below (hBW.mono (by omega))) (hD.below (hBW.mono (by omega))) hBb (by omega)
    ((hW.block _ (by omega)).trans hp0) (Boxed.below hm0 hW (by omega)) hJa hY hJ
set_option maxRecDepth 100000 in
set_option maxHeartbeats 2000000 in
theorem c13cut (q : P4) (A : Option Addr) (c : Nat) (A' : Option Addr) (c' : Nat) (mtu : Int) (B : Nat) (w : World) (hO : Arg w B A c q.opt) (hD : Arg w B A' c' q.dat) (hB0 : B ≤ w.heap.size) (hol : q.opt.length ≤ 1000000) (hdl : q.dat.length ≤ 1000000) :
    Calls Try.prog 9 #[v4v q A c A' c', .int .i64 mtu] w fun e w' => ∃ v l, e = .returned (.tuple #[v, .int .i64 (cutE q mtu)]) ∧ Row4 w' w.heap.size v l ∧ l.map (·.q) = cutL q mtu ∧ Below w.heap.size w w' := by
  have hTn : 26 ≠ 24 := nat_ne (by kernel_rfl)
  have hTuT : 5 ≠ 26 := nat_ne (by kernel_rfl)
  have hTuS : 5 ≠ 24 := nat_ne (by kernel_rfl)
  have hB : Below w.heap.size w (w.alloc (.cells (v4a q A c A' c') 24)) := (Below.refl w.heap.size w).alloc (Nat.le_refl _) _
  have hAt := At4.new (q := q) (A := A) (c := c) (A' := A') (c' := c') w
  have hz : w.heap.size < (w.alloc (.cells (v4a q A c A' c') 24)).heap.size := by simp
  rw [v4v_eq4]
  refine (callsIn_wide (n := 4)).1 ?_
  refine callsIn_of_wp_marks Try.func9 rfl trivial ?_ rfl
  simp only [Try.ntmps9, List.size_toArray, List.length_cons, List.length_nil, Nat.reduceAdd, Nat.reduceSub, Array.replicate_succ, Array.replicate_zero, List.push_toArray, List.append_toArray, List.nil_append, List.cons_append]
  gi_upto_region 1 with fail
  generalize w.alloc (.cells (v4a q A c A' c') 24) = W at *
  have kdf := hAt.df
  by_cases h1 : mtu < 68
  · have d1 : decide (mtu < 68) = true := by simpa using h1
    have HE := Lib.hid (show cutE q mtu = 1 by rw [cutE, if_pos (.inl h1)])
    clear h1
    gi_wp2
    refine leaves_marks w.heap.size (fun Y => Below w.heap.size w Y) (fun Y D hY h1 h2 => hY.trans (belowK_b (w := w) (Nat.le_refl _) Y D _ _ h1 h2 rfl rfl))
      (fun Y hY => ⟨_, results_tmp2 rfl _ _ _, .slice none 0 0, [], by rw [HE.out]; rfl, Row4.nil _ _, by rw [cutL, if_neg (by rw [HE.out]; decide)]; rfl, hY⟩) [] w.heap.size _ trivial hB
  · have d1 : decide (mtu < 68) = false := by simpa using h1
    by_cases h2 : mtu > 65535
    · have d2 : decide (mtu > 65535) = true := by simpa using h2
      have HE := Lib.hid (show cutE q mtu = 1 by rw [cutE, if_pos (.inr h2)])
      clear h1 h2
      gi_wp2
      refine leaves_marks w.heap.size (fun Y => Below w.heap.size w Y) (fun Y D hY h1 h2 => hY.trans (belowK_b (w := w) (Nat.le_refl _) Y D _ _ h1 h2 rfl rfl))
        (fun Y hY => ⟨_, results_tmp2 rfl _ _ _, .slice none 0 0, [], by rw [HE.out]; rfl, Row4.nil _ _, by rw [cutL, if_neg (by rw [HE.out]; decide)]; rfl, hY⟩) [] w.heap.size _ trivial hB
    · have d2 : decide (mtu > 65535) = false := by simpa using h2
      have HM : Hid (¬ (mtu < 68 ∨ mtu > 65535)) := Lib.hid (by omega)
      by_cases hk : chk4 q = 0
      · have HK := Lib.hid hk
        have HDL : Hid (q.dat.length ≤ 65535) := Lib.hid (by have := chk4_ok hk; have h2 := this.2.1; unfold size4 head4 at h2; omega)
        clear h1 h2 hk
        gi_upto_region 6 with (first
          | ((with_reducible show wpListIn _ _ _ _ _ (Oper.mk _ (Op.load 24 _) _ _ _ _ :: _) _ _); refine listI_val rfl (run_load_v4 rfl rfl hAt rfl) ?_)
          | (refine ⟨trivial, ?_⟩; gi_at_call 19; refine (callsIn_wide.2 (c4check q A c A' c' _ hol hdl)).mono ?_; rintro e w1 ⟨rfl, x1⟩; rw [HK.out]))
        have hAt1 := hAt.below x1 hz
        have hB1 := hB.trans (x1.mono hB.size)
        have kdf1 := hAt1.df
        have hz1 := Nat.lt_of_lt_of_le hz x1.size
        clear kdf hAt
        cases hdf : q.df with
        | true =>
          rw [hdf] at kdf1
          by_cases hs : size4 q > mtu
          · have s1 : decide (size4 q > mtu) = true := by simpa using hs
            have s2 : decide (mtu < size4 q) = true := by simpa using hs
            have HE := Lib.hid (show cutE q mtu = 6 by rw [cutE, if_neg HM.out, if_pos HK.out, if_pos ⟨hdf, hs⟩])
            clear hs hdf
            gi_wp2_with (first
              | ((with_reducible show wpListIn _ _ _ _ _ (Oper.mk _ (Op.load 24 _) _ _ _ _ :: _) _ _); refine listI_valw (by rfl) (run_load_v4 rfl rfl hAt1 rfl) ?_)
              | (refine ⟨trivial, ?_⟩; gi_at_call 18; refine (callsIn_wide.2 (c4size q A c A' c' _ hol hdl)).mono ?_; rintro e w2 ⟨rfl, x2⟩))
            refine leaves_marks w.heap.size (fun Y => Below w.heap.size w Y) (fun Y D hY h1 h2 => hY.trans (belowK_b (w := w) (Nat.le_refl _) Y D _ _ h1 h2 rfl rfl))
              (fun Y hY => ⟨_, results_tmp2 rfl _ _ _, .slice none 0 0, [], by rw [HE.out]; rfl, Row4.nil _ _, by rw [cutL, if_neg (by rw [HE.out]; decide)]; rfl, hY⟩) [] w.heap.size _ trivial (hB1.trans (x2.mono hB1.size))
          · have s1 : decide (size4 q > mtu) = false := by simpa using hs
            have s2 : decide (mtu < size4 q) = false := by simpa using hs
            have HE0 := Lib.hid (show cutE q mtu = 0 by rw [cutE, if_neg HM.out, if_pos HK.out, if_neg (fun h => hs h.2)])
            have HCK := Lib.hid (cutE_ok HE0.out)
            clear hs hdf
            gi_upto_region 9 with (first
              | ((with_reducible show wpListIn _ _ _ _ _ (Oper.mk _ (Op.load 24 _) _ _ _ _ :: _) _ _); refine listI_valw (by rfl) (run_load_v4 rfl rfl hAt1 rfl) ?_)
              | (refine ⟨trivial, ?_⟩; gi_at_call 18; refine (callsIn_wide.2 (c4size q A c A' c' _ hol hdl)).mono ?_; rintro e w2 ⟨rfl, x2⟩))
            have hB2 := hB1.trans (x2.mono hB1.size)
            have hAt2 := hAt1.below x2 hz1
            have hz2 := Nat.lt_of_lt_of_le hz1 x2.size
            have hbx := Boxed.new w2 26 (.slice none 0 0)
            have hY0 : Below w2.heap.size w2 (w2.alloc (.cells #[.slice none 0 0] 26)) := (Below.refl _ _).alloc (Nat.le_refl _) _
            have hBY := hB2.trans (hY0.mono hB2.size)
            have hAtX := hAt2.below hY0 hz2
            have hYz : w2.heap.size < (w2.alloc (.cells #[.slice none 0 0] 26)).heap.size := by simp
            obtain ⟨b7, hb7e⟩ : ∃ b, b = w2.heap.size := ⟨_, rfl⟩
            rw [← hb7e] at hbx hYz ⊢
            have hb7 : w.heap.size ≤ b7 := by rw [hb7e]; exact hB2.size
            generalize w2.alloc (.cells #[.slice none 0 0] 26) = Y at *
            clear hY0 hAt1 hAt2 kdf1 hB1 x1 hb7e
            gi_wp2_with (first
              | ((with_reducible show wpListIn _ _ _ _ _ (Oper.mk _ (Op.load 24 _) _ _ _ _ :: _) _ _); refine listI_val rfl (run_load_v4 rfl rfl hAtX rfl) ?_)
              | (refine ⟨trivial, ?_⟩; gi_at_call 29; refine (callsIn_wide.2 (frags_any q A c A' c' mtu w.heap.size B _ HCK.out.1 HCK.out.2.2 (hO.below (hBY.mono hB0)) (hD.below (hBY.mono hB0)) hB0 (by omega))).mono ?_; rintro e w3 ⟨Bp, Bm, rfl, x3, hseq⟩))
            have hz3 := x3.size
            have hbx3 := Boxed.below hbx x3 (by omega)
            have hB3 : Below w.heap.size w w3 := hBY.trans (x3.mono (by omega))
            clear hbx hAtX
            refine range_box (by omega) 8 24 (gf := 53) (lb := #[.pointer (some ⟨Bp, 0, none⟩), .pointer (some ⟨Bm, 0, none⟩)]) (cells := fun x => v4a x.q x.A x.c x.A' x.c') rfl (enters_of Try.func53 (by kernel_rfl) rfl)
              (hseq (4 - 1) (by omega)) Kp4.trans (fun V l r r' hl hr => Kp4.loop hr (by omega)) (Below.refl _ _) (fun _ => rfl)
              (fun pre x V l r r' h _ hl => ⟨h.1, h.2.loop hl⟩)
              (fun pre V => InBox V w.heap.size b7 (w3.heap.size + 2) pre ∧ Below w.heap.size w V)
              (fun pre V Y r hs hg hr => ⟨hs.1.turn hg (fun k e => (hr k e).2), below_keep hs.2 hg hr (by omega) (Nat.le_refl _)⟩)
              (fun pre V Y k cs hs hg hk hc => ⟨hs.1.own2 hg hk hc, hs.2.grown hg hs.2.size (fun j e => by cases e; omega)⟩)
              ⟨InBox.nil hbx3, hB3⟩
              (fun pre x V o h => ⟨h.1, h.2.below ((Below.refl _ V).alloc (Nat.le_refl _) o)⟩) (fun V o hz => Kp4.of_below ((Below.refl _ V).alloc (Nat.le_refl _) o) (by omega)) ?assign ?body ?done
            case assign =>
              intro l x V K hK
              dsimp only [enc4] at hK ⊢
              gi_wp2_with ((with_reducible show wpListIn _ _ _ _ _ (Oper.mk _ (Op.store 24 _ _) _ _ _ _ :: _) _ _); refine listR_skip rfl (fun c h => by cases h) (run_store4 (cs := v4a x.q x.A x.c x.A' x.c') rfl rfl rfl (World.alloc_heap_new V _) rfl rfl (v4a_one _ _ _ _ _)) ?_; rw [World.setRow_alloc_new])
              simp [Act.put] at hK ⊢
              exact hK
            case body =>
              rintro l pre x b X ⟨hin, hBX⟩ ⟨⟨more, hmore⟩, hown⟩ hzX hb
              dsimp only [enc4]
              have hpl : pre.length < 65537 := by
                have h1 := rst4_len mtu (copied q.opt) q.mf q
                have h2 := congrArg List.length hmore
                rw [List.length_append, List.length_cons, List.length_map] at h2
                have := HDL.out; omega
              obtain ⟨v, hvX, hoX, hnX, hrX, haX⟩ := hin
              obtain ⟨Av, cv, rfl⟩ := own_slice hoX
              have hcv := hvX.cell
              have hfv := hvX.frozen
              have hatb := at4_of hb
              obtain ⟨i0, hi, hz0, hz1, hz2'⟩ := info_parts info_v4
              have hnv : Value.slice Av pre.length cv = .slice none 0 0 ∨ 0 < pre.length := by
                rcases Nat.eq_zero_or_pos pre.length with h0 | h0
                · exact .inl (hnX (List.eq_nil_of_length_eq_zero h0))
                · exact .inr h0
              have hB7 : w.heap.size ≤ b7 := hb7
              go_frame
              gi_wp2_with (first
                | ((with_reducible show wpListIn _ _ _ _ _ (Oper.mk _ (Op.load 24 _) _ _ _ _ :: _) _ _); refine listR_val rfl (fun c h => by cases h) (run_load_v4 rfl rfl hatb rfl) ?_)
                | ((with_reducible show wpListIn _ _ _ _ _ (Oper.mk _ (Op.buildSlice _ _ _) _ _ _ _ :: _) _ _); refine listR_grow rfl (fun c h => by cases h) (run_bs4 (cs := v4a x.q x.A x.c x.A' x.c') rfl rfl rfl) ?_)
                | (gi_at_builtin; refine wpListIn_append_one _ rfl _ _ 26 rfl w.heap.size 24 i0 (v4v p4z none 0 none 0) 11 112 Try.underlying26 hi hz0 hz1 hz2' rfl (by decide) _ pre.length (pre.flatMap cl4) rfl (hoX.alloc _) hnv ⟨X.heap.size, 0, none⟩ 1 (cl4 x) rfl rfl (cells_new4 X x) (cl4_one x) (by unfold maxLen; omega) (by omega) (by have := hBX.size; simp; omega) ?_; intro v' w' hown' hgrow hkeep hblk; obtain ⟨q1, q2, q3, q4, q5⟩ := Boxed.appended hvX hTn hoX hBX.size hB7 hown' hgrow; have qc := q1.cell; have qf := q1.frozen; obtain ⟨A9, c9, rfl⟩ := own_slice hown'))
              have hKS : KeepS 24 26 11 X (w'.setCell ⟨b7, 0, none⟩ (.slice A9 (pre.length + 1) c9)) := ⟨q5.size, fun k cs ty fr hk h1 h2 => by
                have hk1 : (X.alloc (.cells (v4a x.q x.A x.c x.A' x.c') 24)).heap[k]? = some (.cells cs ty fr) := (Below.heap_alloc X _ k (heap_lt hk)).trans hk
                have hne : k ≠ b7 := fun e => by
                  subst e
                  have := (show X.heap[k]? = _ from hvX).symm.trans hk
                  simp at this
                  exact h1 this.2.1.symm
                exact (Below.heap_setCell _ _ _ k hne).trans ((hkeep k cs ty fr hk1 h2).trans (hk1.trans hk.symm))⟩
              refine ⟨q4.from _, ⟨hKS, KeepP.of_below q5 (fun k hk => Nat.lt_of_lt_of_le hk hB0)⟩, ⟨_, q2, ?_, fun e => absurd e (by simp), ?_, ?_⟩, hBX.trans q5⟩
              · rw [List.length_append, List.flatMap_append, List.flatMap_cons, List.flatMap_nil, List.append_nil]; exact q3
              · rcases hblk with e | e
                · rw [e]; exact hrX
                · rw [e]; intro e'; injection e' with e'; rw [World.size_alloc] at e'; omega
              · intro y hy
                rcases List.mem_append.1 hy with hy | hy
                · exact (haX y hy).keep hKS hTuT hTuS
                · rw [List.mem_singleton.1 hy]; exact hown.keep hKS hTuT hTuS
            case done =>
              rintro D xs X hD hS ⟨⟨v, hvX, hoX, hnX, hrX, haX⟩, hBX⟩ hK
              have hm1 : Marks w3.heap.size X.heap.size [{ target := .collected D, args := #[] }] X := (Marks.push (hi := D) (ds := []) trivial (Nat.le_refl _) hD hK).more (heap_lt hK)
              obtain ⟨Av, cv, rfl⟩ := own_slice hoX
              have hcv := hvX.cell
              gi_wp2
              refine leaves_marks w3.heap.size (fun Y => Row4 Y w.heap.size (.slice Av xs.length cv) xs ∧ Below w.heap.size w Y) (fun Y D hY h1 h2 => ⟨hY.1.mark h2, hY.2.trans (belowK_b (w := w) (Nat.le_refl _) Y D _ _ (by omega) h2 rfl rfl)⟩)
                (fun Y hY => ⟨_, results_tmp2 rfl _ _ _, _, xs, by rw [HE0.out]; rfl, hY.1, ?_, hY.2⟩) _ _ _ hm1 ⟨⟨hoX, haX⟩, hBX⟩
              rw [cutL, if_pos HE0.out]; exact hS
        | false =>
          rw [hdf] at kdf1
          have HE0 := Lib.hid (show cutE q mtu = 0 by rw [cutE, if_neg HM.out, if_pos HK.out, if_neg (fun h => by rw [hdf] at h; exact absurd h.1 (by decide))])
          have HCK := Lib.hid (cutE_ok HE0.out)
          clear hdf
          gi_upto_region 9 with (first | (refine ⟨trivial, ?_⟩; go_at_K) | (refine ⟨fun _ h => (by cases h), ?_⟩; go_at_K))
          have hB2 := hB1
          have hAt2 := hAt1
          have hz2 := hz1
          have x2 := Below.refl w1.heap.size w1
          have hbx := Boxed.new w1 26 (.slice none 0 0)
          have hY0 : Below w1.heap.size w1 (w1.alloc (.cells #[.slice none 0 0] 26)) := (Below.refl _ _).alloc (Nat.le_refl _) _
          have hBY := hB2.trans (hY0.mono hB2.size)
          have hAtX := hAt2.below hY0 hz2
          have hYz : w1.heap.size < (w1.alloc (.cells #[.slice none 0 0] 26)).heap.size := by simp
          obtain ⟨b7, hb7e⟩ : ∃ b, b = w1.heap.size := ⟨_, rfl⟩
          rw [← hb7e] at hbx hYz ⊢
          have hb7 : w.heap.size ≤ b7 := by rw [hb7e]; exact hB2.size
          generalize w1.alloc (.cells #[.slice none 0 0] 26) = Y at *
          clear hY0 hAt1 hAt2 kdf1 hB1 x1 hb7e
          gi_wp2_with (first
            | ((with_reducible show wpListIn _ _ _ _ _ (Oper.mk _ (Op.load 24 _) _ _ _ _ :: _) _ _); refine listI_val rfl (run_load_v4 rfl rfl hAtX rfl) ?_)
            | (refine ⟨trivial, ?_⟩; gi_at_call 29; refine (callsIn_wide.2 (frags_any q A c A' c' mtu w.heap.size B _ HCK.out.1 HCK.out.2.2 (hO.below (hBY.mono hB0)) (hD.below (hBY.mono hB0)) hB0 (by omega))).mono ?_; rintro e w3 ⟨Bp, Bm, rfl, x3, hseq⟩))
          have hz3 := x3.size
          have hbx3 := Boxed.below hbx x3 (by omega)
          have hB3 : Below w.heap.size w w3 := hBY.trans (x3.mono (by omega))
          clear hbx hAtX
          refine range_box (by omega) 8 24 (gf := 53) (lb := #[.pointer (some ⟨Bp, 0, none⟩), .pointer (some ⟨Bm, 0, none⟩)]) (cells := fun x => v4a x.q x.A x.c x.A' x.c') rfl (enters_of Try.func53 (by kernel_rfl) rfl)
            (hseq (4 - 1) (by omega)) Kp4.trans (fun V l r r' hl hr => Kp4.loop hr (by omega)) (Below.refl _ _) (fun _ => rfl)
            (fun pre x V l r r' h _ hl => ⟨h.1, h.2.loop hl⟩)
            (fun pre V => InBox V w.heap.size b7 (w3.heap.size + 2) pre ∧ Below w.heap.size w V)
            (fun pre V Y r hs hg hr => ⟨hs.1.turn hg (fun k e => (hr k e).2), below_keep hs.2 hg hr (by omega) (Nat.le_refl _)⟩)
            (fun pre V Y k cs hs hg hk hc => ⟨hs.1.own2 hg hk hc, hs.2.grown hg hs.2.size (fun j e => by cases e; omega)⟩)
            ⟨InBox.nil hbx3, hB3⟩
            (fun pre x V o h => ⟨h.1, h.2.below ((Below.refl _ V).alloc (Nat.le_refl _) o)⟩) (fun V o hz => Kp4.of_below ((Below.refl _ V).alloc (Nat.le_refl _) o) (by omega)) ?assign ?body ?done
          case assign =>
            intro l x V K hK
            dsimp only [enc4] at hK ⊢
            gi_wp2_with ((with_reducible show wpListIn _ _ _ _ _ (Oper.mk _ (Op.store 24 _ _) _ _ _ _ :: _) _ _); refine listR_skip rfl (fun c h => by cases h) (run_store4 (cs := v4a x.q x.A x.c x.A' x.c') rfl rfl rfl (World.alloc_heap_new V _) rfl rfl (v4a_one _ _ _ _ _)) ?_; rw [World.setRow_alloc_new])
            simp [Act.put] at hK ⊢
            exact hK
          case body =>
            rintro l pre x b X ⟨hin, hBX⟩ ⟨⟨more, hmore⟩, hown⟩ hzX hb
            dsimp only [enc4]
            have hpl : pre.length < 65537 := by
              have h1 := rst4_len mtu (copied q.opt) q.mf q
              have h2 := congrArg List.length hmore
              rw [List.length_append, List.length_cons, List.length_map] at h2
              have := HDL.out; omega
            obtain ⟨v, hvX, hoX, hnX, hrX, haX⟩ := hin
            obtain ⟨Av, cv, rfl⟩ := own_slice hoX
            have hcv := hvX.cell
            have hfv := hvX.frozen
            have hatb := at4_of hb
            obtain ⟨i0, hi, hz0, hz1, hz2'⟩ := info_parts info_v4
            have hnv : Value.slice Av pre.length cv = .slice none 0 0 ∨ 0 < pre.length := by
              rcases Nat.eq_zero_or_pos pre.length with h0 | h0
              · exact .inl (hnX (List.eq_nil_of_length_eq_zero h0))
              · exact .inr h0
            have hB7 : w.heap.size ≤ b7 := hb7
            go_frame
            gi_wp2_with (first
              | ((with_reducible show wpListIn _ _ _ _ _ (Oper.mk _ (Op.load 24 _) _ _ _ _ :: _) _ _); refine listR_val rfl (fun c h => by cases h) (run_load_v4 rfl rfl hatb rfl) ?_)
              | ((with_reducible show wpListIn _ _ _ _ _ (Oper.mk _ (Op.buildSlice _ _ _) _ _ _ _ :: _) _ _); refine listR_grow rfl (fun c h => by cases h) (run_bs4 (cs := v4a x.q x.A x.c x.A' x.c') rfl rfl rfl) ?_)
              | (gi_at_builtin; refine wpListIn_append_one _ rfl _ _ 26 rfl w.heap.size 24 i0 (v4v p4z none 0 none 0) 11 112 Try.underlying26 hi hz0 hz1 hz2' rfl (by decide) _ pre.length (pre.flatMap cl4) rfl (hoX.alloc _) hnv ⟨X.heap.size, 0, none⟩ 1 (cl4 x) rfl rfl (cells_new4 X x) (cl4_one x) (by unfold maxLen; omega) (by omega) (by have := hBX.size; simp; omega) ?_; intro v' w' hown' hgrow hkeep hblk; obtain ⟨q1, q2, q3, q4, q5⟩ := Boxed.appended hvX hTn hoX hBX.size hB7 hown' hgrow; have qc := q1.cell; have qf := q1.frozen; obtain ⟨A9, c9, rfl⟩ := own_slice hown'))
            have hKS : KeepS 24 26 11 X (w'.setCell ⟨b7, 0, none⟩ (.slice A9 (pre.length + 1) c9)) := ⟨q5.size, fun k cs ty fr hk h1 h2 => by
              have hk1 : (X.alloc (.cells (v4a x.q x.A x.c x.A' x.c') 24)).heap[k]? = some (.cells cs ty fr) := (Below.heap_alloc X _ k (heap_lt hk)).trans hk
              have hne : k ≠ b7 := fun e => by
                subst e
                have := (show X.heap[k]? = _ from hvX).symm.trans hk
                simp at this
                exact h1 this.2.1.symm
              exact (Below.heap_setCell _ _ _ k hne).trans ((hkeep k cs ty fr hk1 h2).trans (hk1.trans hk.symm))⟩
            refine ⟨q4.from _, ⟨hKS, KeepP.of_below q5 (fun k hk => Nat.lt_of_lt_of_le hk hB0)⟩, ⟨_, q2, ?_, fun e => absurd e (by simp), ?_, ?_⟩, hBX.trans q5⟩
            · rw [List.length_append, List.flatMap_append, List.flatMap_cons, List.flatMap_nil, List.append_nil]; exact q3
            · rcases hblk with e | e
              · rw [e]; exact hrX
              · rw [e]; intro e'; injection e' with e'; rw [World.size_alloc] at e'; omega
            · intro y hy
              rcases List.mem_append.1 hy with hy | hy
              · exact (haX y hy).keep hKS hTuT hTuS
              · rw [List.mem_singleton.1 hy]; exact hown.keep hKS hTuT hTuS
          case done =>
            rintro D xs X hD hS ⟨⟨v, hvX, hoX, hnX, hrX, haX⟩, hBX⟩ hK
            have hm1 : Marks w3.heap.size X.heap.size [{ target := .collected D, args := #[] }] X := (Marks.push (hi := D) (ds := []) trivial (Nat.le_refl _) hD hK).more (heap_lt hK)
            obtain ⟨Av, cv, rfl⟩ := own_slice hoX
            have hcv := hvX.cell
            gi_wp2
            refine leaves_marks w3.heap.size (fun Y => Row4 Y w.heap.size (.slice Av xs.length cv) xs ∧ Below w.heap.size w Y) (fun Y D hY h1 h2 => ⟨hY.1.mark h2, hY.2.trans (belowK_b (w := w) (Nat.le_refl _) Y D _ _ (by omega) h2 rfl rfl)⟩)
              (fun Y hY => ⟨_, results_tmp2 rfl _ _ _, _, xs, by rw [HE0.out]; rfl, hY.1, ?_, hY.2⟩) _ _ _ hm1 ⟨⟨hoX, haX⟩, hBX⟩
            rw [cutL, if_pos HE0.out]; exact hS
      · have HE := Lib.hid (show cutE q mtu = chk4 q by rw [cutE, if_neg HM.out, if_neg hk])
        have HN := Lib.hid hk
        have dk : (chk4 q != 0) = true := by simpa using hk
        clear h1 h2 hk
        gi_wp2_with (first
          | ((with_reducible show wpListIn _ _ _ _ _ (Oper.mk _ (Op.load 24 _) _ _ _ _ :: _) _ _); refine listI_val rfl (run_load_v4 rfl rfl hAt rfl) ?_)
          | (refine ⟨trivial, ?_⟩; gi_at_call 19; refine (callsIn_wide.2 (c4check q A c A' c' _ hol hdl)).mono ?_; rintro e w1 ⟨rfl, x1⟩))
        refine leaves_marks w.heap.size (fun Y => Below w.heap.size w Y) (fun Y D hY h1 h2 => hY.trans (belowK_b (w := w) (Nat.le_refl _) Y D _ _ h1 h2 rfl rfl))
          (fun Y hY => ⟨_, results_tmp2 rfl _ _ _, .slice none 0 0, [], by rw [HE.out]; rfl, Row4.nil _ _, by rw [cutL, if_neg (by rw [HE.out]; exact HN.out)]; rfl, hY⟩) [] w.heap.size _ trivial (hB.trans (x1.mono hB.size))

end Go.Proofs.Ytcebobcakiljhaa
