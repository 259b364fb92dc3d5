/-
  Contracts and lemmas on which the proofs of this seat stand (several texts in one). Conditions are each theorem's own.
-/
import Derived.Test.YtpoigngpdcmipaaGreatMb7
import Derived.Lib.AppendZerosOnto
import Derived.Lib.Walk
import Derived.Lib.SliceRun
import Derived.Test.YtpoigngpdcmipaaGreatMb2
import Derived.WalkMore
import Derived.Test.YtpoigngpdcmipaaGreatMb3
import Derived.Great.BuildSlice
import Derived.OwnWalkIn
import Derived.Deep.Cut
import Derived.Deep.CutRange
namespace Go.Proofs.YtpoigngpdcmipaaGreat
open Go.RowKit
set_option maxHeartbeats 1000000 in
theorem grow_nil (n : Nat) (h0 : 0 < n) (h1 : n ≤ 1000000000) (w : World) :
    Calls Tryz.prog 120 #[.slice none 0 0, .int .i64 (n : Int)] w fun e w' => ∃ v, e = .returned v ∧ w'.ownsRow w.heap.size 5 1 v 0 (row []) ∧ Below w.heap.size w w' := by
  obtain ⟨i0, hi, hz0, hz1, hz2⟩ := info_parts info_u8
  have hold : (Builtin.firstCells i0.size 0 (.slice none 0 0)).run Tryz.prog w.drew = .ok ([] : List Value).toArray w.drew := run_firstCells_none w.drew i0.size 0 0 0
  have hfit : Builtin.nextslicecap (0 + n) 0 * i0.bytes ≤ 281474976710656 := by
    rw [hz2]; exact growslice_fits (by omega) (by omega)
  have hrz : ∀ ty, (Builtin.append_ #[22, 3] ty #[.slice none 0 0, .int .i64 (n : Int)]).run Tryz.prog w =
      .ok (.slice (some ⟨w.heap.size, 0, none⟩) n (grownCap w n 0 5)) (w.drew.alloc (.cells (([] : List Value).toArray ++ Builtin.zeroCells (Value.int .u8 0).cells n ++ Builtin.zeroCells (Value.int .u8 0).cells (grownCap w n 0 5 - n)) 5)) := fun ty => by
    have h := Lib.run_append_grow_zeros w 22 3 ty 5 i0 (.int .u8 0) .i64 .i64 Tryz.underlying22 Tryz.underlying3 hi hz0 none 0 0 [] hold n h0 (by omega) (by omega) (by omega) (by rw [hz2]; omega) hfit
    rw [Nat.zero_add] at h; exact h
  have hge : n ≤ grownCap w n 0 5 := grownCap_ge w _ _ _
  have hle := grownCap_le_maxLen w n 0 5 (by unfold maxLen; omega)
  obtain ⟨G, hG⟩ : ∃ G, G = grownCap w n 0 5 := ⟨_, rfl⟩
  rw [← hG] at hrz hge hle
  have hG63 : G ≤ 9223372036854775807 := by unfold maxLen at hle; omega
  have hHle := Lib.hid hle
  have dn : decide ((n : Int) < 0) = false := by simp
  clear hG hold hfit hle hi hz0 hz1 hz2
  go_enter Tryz.func120, Tryz.ntmps120
  go_wp2_with (at_builtin; refine Lib.wpList_append_run _ rfl _ _ _ _ rfl _ _ rfl rfl _ _ (hrz _) ?_)
  go_ret
  have hsz : (Builtin.zeroCells #[Value.int .u8 0] n ++ Builtin.zeroCells #[Value.int .u8 0] (G - n)).size = G := by
    simp only [Array.size_append, size_zeroCells]
    show n * 1 + (G - n) * 1 = G
    omega
  exact ⟨_, rfl, ⟨rfl, .inr ⟨w.heap.size, G, Builtin.zeroCells #[Value.int .u8 0] n ++ Builtin.zeroCells #[Value.int .u8 0] (G - n), rfl, Nat.le_refl _, World.alloc_heap_new w _, Nat.zero_le _, hHle.out, by rw [hsz, Nat.mul_one], by simp [row]⟩⟩, (((Below.refl _ w).alloc (Nat.le_refl _) _).drew)⟩
theorem flatten_take (ps : List (List UInt8)) {k : Nat} {bs : List UInt8} (h : ps[k]? = some bs) : (ps.take (k + 1)).flatten = (ps.take k).flatten ++ bs := by
  rw [List.take_add_one, h]; simp
theorem bulk_flatten (ps : List (List UInt8)) : ps.flatten.length = bulk ps := by simp [bulk, List.length_flatten]
set_option maxRecDepth 100000 in
set_option maxHeartbeats 2000000 in
theorem concat_any (A : Option Addr) (ps : List (List UInt8)) (c B : Nat) (w : World) (h : Rd2 w B A ps) (hB : B ≤ w.heap.size) (h0 : 0 < bulk ps) (hl : bulk ps ≤ 1000000) (hn : ps.length ≤ 1000) (hn0 : 0 < ps.length) :
    Calls Tryz.prog 98 #[.slice A ps.length c] w fun e w' => ∃ v, e = .returned v ∧ Made w w' v ps.flatten := by
  obtain ⟨b, off, rfl, hbB, hcell⟩ := h hn0
  have HC := Lib.hid hcell
  have HBT := Lib.hid (fun (k : Nat) (bs : List UInt8) (h : ps[k]? = some bs) => (⟨bulk_take ps h, len_bulk h⟩ : bulk (ps.take (k + 1)) = bulk (ps.take k) + bs.length ∧ bs.length ≤ bulk ps))
  have HBL := Lib.hid (bulk_le ps)
  clear hcell h
  obtain ⟨T, hT⟩ : ∃ n, n = bulk ps := ⟨_, rfl⟩
  rw [← hT] at h0 hl HBT HBL
  have HT := Lib.hid hT
  clear hT
  go_enter Tryz.func98, Tryz.ntmps98
  go_wp2_with fail
  go_loop [3, 5, 11] (fun s _ i => ∃ k : Nat, ∃ m : Nat, k ≤ ps.length ∧ Hid (m = bulk (ps.take k)) ∧ m ≤ 1000000 ∧ i = .int .i64 (k : Int) ∧ s = .int .i64 (m : Int)) (fun _ _ i => ps.length - (intOf i).toNat)
  case atStart => exact ⟨0, 0, Nat.zero_le _, Lib.hid rfl, by omega, rfl, rfl⟩
  case round =>
    obtain ⟨k, m, hk, Hm, hm, rfl, rfl⟩ := hrel
    by_cases hlt : k < ps.length
    · obtain ⟨bs, hbs⟩ : ∃ bs, ps[k]? = some bs := ⟨_, List.getElem?_eq_getElem hlt⟩
      obtain ⟨Aj, cj, hcj, harg⟩ := HC.out k bs hbs
      obtain ⟨e1, e2⟩ := HBT.out k bs hbs
      have e3 := HBL.out (k + 1)
      have hmb : m + bs.length ≤ 1000000 := by have := Hm.out; omega
      have HN := Lib.hid (show m + bs.length = bulk (ps.take (k + 1)) by rw [e1, Hm.out])
      have dn : decide ((m : Int) + (bs.length : Int) < 0) = false := by simp; omega
      clear e1 e2 e3 harg hbs
      go_wp2_with fail
      go_round
      case rel => exact ⟨k + 1, m + bs.length, by omega, HN, hmb, by go_num, by go_num⟩
      case measure => simp [intOf]; omega
    · obtain rfl : k = ps.length := by omega
      have HM := Lib.hid (show m = T by rw [Hm.out, List.take_length, HT.out])
      obtain rfl : m = T := HM.out
      clear Hm
      go_wp2_with (go_at_call 120; refine (grow_nil m h0 (by omega) _).mono ?_; rintro e w1 ⟨v1, rfl, own1, x1⟩)
      go_loopw [6, 8, 27] (fun v _ i W => ∃ k : Nat, ∃ bs : List UInt8, k ≤ ps.length ∧ Hid (bs = (ps.take k).flatten) ∧ bs.length ≤ 1000000 ∧ i = .int .i64 (k : Int) ∧ W.ownsRow w.heap.size 5 1 v bs.length (row bs) ∧ Below w.heap.size w W) (fun _ _ i _ => ps.length - (intOf i).toNat)
      case atStart => exact ⟨0, [], Nat.zero_le _, Lib.hid rfl, by simp, rfl, own1, x1⟩
      case round =>
        obtain ⟨k, bs, hk, Hb, hbl, rfl, hown, hbel⟩ := hrel
        by_cases hlt : k < ps.length
        · obtain ⟨b2, hbs⟩ : ∃ b2, ps[k]? = some b2 := ⟨_, List.getElem?_eq_getElem hlt⟩
          obtain ⟨Aj, cj, hcj, harg⟩ := HC.out k b2 hbs
          have hcj' := (hbel.cell (p := ⟨b, off + k, none⟩) (Nat.lt_of_lt_of_le hbB hB)).trans hcj
          have harg' := harg.below (hbel.mono hB)
          have hcap := harg.none_
          have HN := Lib.hid (show bs ++ b2 = (ps.take (k + 1)).flatten by rw [flatten_take ps hbs, Hb.out])
          obtain ⟨e1, e2⟩ := HBT.out k b2 hbs
          have hnb : (bs ++ b2).length ≤ 1000000 := by
            rw [HN.out, bulk_flatten]; have := HBL.out (k + 1); omega
          have hnb' : bs.length + b2.length ≤ 1000000 := by rw [List.length_append] at hnb; exact hnb
          clear e1 e2 hcj harg hbs
          go_wp2_with (at_builtin; refine append_rd rfl _ _ rfl w.heap.size _ _ _ rfl hown B Aj cj b2 rfl hcap harg'.rd (by omega) hbel.size ?_; intro v5 w5 own5 grow5)
          have x5 := hbel.grown grow5 hbel.size (fun k hk => own_block_ge hown k hk)
          have own6 : w5.ownsRow w.heap.size 5 1 v5 (bs ++ b2).length (row (bs ++ b2)) := by rw [List.length_append, row_append]; exact own5
          go_roundw
          case rel => exact ⟨k + 1, bs ++ b2, by omega, HN, hnb, by go_num, own6, x5⟩
          case measure => simp [intOf]; omega
        · obtain rfl : k = ps.length := by omega
          go_wp2_with fail
          go_ret
          have e : bs = ps.flatten := by rw [Hb.out, List.take_length]
          subst e
          exact ⟨_, rfl, Made.of_own hown hbel⟩
theorem concat_three (A : Option Addr) (a b d : List UInt8) (c B : Nat) (R : List UInt8) (hR : Hid (R = a ++ b ++ d)) (w : World) (h : Rd2 w B A [a, b, d]) (hB : B ≤ w.heap.size) (h0 : 0 < a.length) (hl : a.length + b.length + d.length ≤ 1000000) :
    Calls Tryz.prog 98 #[.slice A 3 c] w fun e w' => ∃ v, e = .returned v ∧ Made w w' v R := by
  have h1 := concat_any A [a, b, d] c B w h hB (by rw [bulk3]; omega) (by rw [bulk3]; omega) (by simp) (by simp)
  have e : [a, b, d].flatten = R := by rw [hR.out]; simp
  rw [e] at h1
  exact h1
end Go.Proofs.YtpoigngpdcmipaaGreat
namespace Go.Proofs.YtpoigngpdcmipaaGreat
open Go.RowKit
end Go.Proofs.YtpoigngpdcmipaaGreat
namespace Go.Proofs.YtpoigngpdcmipaaGreat
open Go.RowKit
end Go.Proofs.YtpoigngpdcmipaaGreat
namespace Go.Proofs.YtpoigngpdcmipaaGreat
open Go.RowKit
end Go.Proofs.YtpoigngpdcmipaaGreat
namespace Go.Proofs.YtpoigngpdcmipaaGreat
open Go.RowKit
end Go.Proofs.YtpoigngpdcmipaaGreat
namespace Go.Proofs.YtpoigngpdcmipaaGreat
open Go.RowKit Go.Shelf
attribute [local go_sem] Oper.semAt_some
theorem grown_none {w w' : World} (h : Below w.heap.size w w') : w.grownBy w' none := ⟨h.os, h.tape, h.output, h.size, fun k hk _ => h.block k hk⟩
end Go.Proofs.YtpoigngpdcmipaaGreat
namespace Go.Proofs.YtpoigngpdcmipaaGreat
open Go.RowKit
def room (mtu : Int) (q : P4) : Int := (mtu - head4 q) - (mtu - head4 q) % 8
def fol (a b : P4) : Bool := a.mf && a.src == b.src && a.dst == b.dst && a.proto == b.proto && a.id == b.id && (a.off + (a.dat.length : Int) == b.off)
def chn (l : List P4) (k : Nat) : Prop := ∀ i, i + 1 < k → fol (l.getD i p4z) (l.getD (i + 1) p4z) = true
instance (l : List P4) (k : Nat) : Decidable (chn l k) := decidable_of_iff (∀ i, i < k - 1 → fol (l.getD i p4z) (l.getD (i + 1) p4z) = true) ⟨fun h i hi => h i (by omega), fun h i hi => h i (by omega)⟩
end Go.Proofs.YtpoigngpdcmipaaGreat
namespace Go.Proofs.YtpoigngpdcmipaaGreat
open Go.RowKit Go.Shelf
section
variable {α : Type} {cl : α → List Value} {sz : Nat}
theorem flat_len (l : List α) (h : ∀ x ∈ l, (cl x).length = sz) : (l.flatMap cl).length = l.length * sz := by
  induction l with
  | nil => simp
  | cons x l ih =>
    rw [List.flatMap_cons, List.length_append, h x (by simp), ih (fun y hy => h y (by simp [hy])), List.length_cons, Nat.add_mul]; omega
theorem flat_at : ∀ (l : List α), (∀ x ∈ l, (cl x).length = sz) → ∀ (j : Nat) (x : α), l[j]? = some x → ∀ (i : Nat) (v : Value), (cl x)[i]? = some v → (l.flatMap cl)[j * sz + i]? = some v
  | [], _, j, x, hx, _, _, _ => by simp at hx
  | y :: l, h, 0, x, hx, i, v, hv => by
    simp only [List.getElem?_cons_zero, Option.some.injEq] at hx
    subst hx
    have hi := (List.getElem?_eq_some_iff.1 hv).1
    rw [List.flatMap_cons, Nat.zero_mul, Nat.zero_add, List.getElem?_append_left hi]; exact hv
  | y :: l, h, j + 1, x, hx, i, v, hv => by
    have hy := h y (by simp)
    rw [List.flatMap_cons, List.getElem?_append_right (by rw [hy, Nat.add_mul]; omega), hy, show (j + 1) * sz + i - sz = j * sz + i from by rw [Nat.add_mul]; omega]
    exact flat_at l (fun z hz => h z (by simp [hz])) j x (by simpa using hx) i v hv
def RdS (cl : α → List Value) (sz : Nat) (w : World) (B : Nat) (A : Option Addr) (l : List α) : Prop :=
  0 < l.length → ∃ b off, A = some ⟨b, off, none⟩ ∧ b < B ∧ ∀ j x, l[j]? = some x → w.rangeAt b (off + j * sz) (cl x)
theorem RdS.keep {w w' : World} {B : Nat} {A : Option Addr} {l : List α} (h : RdS cl sz w B A l) (hk : ∀ p : Addr, p.block < B → w'.cell? p = w.cell? p) : RdS cl sz w' B A l := fun hn => by
  obtain ⟨b, off, e, hb, hc⟩ := h hn
  exact ⟨b, off, e, hb, fun j x hx i v hv => (hk ⟨b, _, none⟩ hb).trans (hc j x hx i v hv)⟩
theorem RdS.below {w w' : World} {B : Nat} {A : Option Addr} {l : List α} (h : RdS cl sz w B A l) (hb : Below B w w') : RdS cl sz w' B A l := h.keep fun _ hp => hb.cell hp
theorem RdS.more {w : World} {B B' : Nat} {A : Option Addr} {l : List α} (h : RdS cl sz w B A l) (hB : B ≤ B') : RdS cl sz w B' A l := fun hn => by
  obtain ⟨b, off, e, hb, hc⟩ := h hn
  exact ⟨b, off, e, by omega, hc⟩
theorem own_rds {w : World} {base e n : Nat} {v : Value} {xs : List Value} {l : List α} (h : w.ownsRow base e sz v n xs) (hn : n = l.length) (hx : xs = l.flatMap cl) (hl : ∀ x ∈ l, (cl x).length = sz) :
    ∃ A c, v = .slice A l.length c ∧ RdS cl sz w w.heap.size A l ∧ l.length ≤ c := by
  subst hn; subst hx
  rcases h.2 with ⟨rfl, h0⟩ | ⟨g, cap, cur, rfl, hb, hh, hle, _, hs, ht⟩
  · exact ⟨none, 0, by rw [h0], fun hn => by omega, by omega⟩
  · refine ⟨_, cap, rfl, fun _ => ⟨g, 0, rfl, heap_lt hh, fun j x hx i v hv => ?_⟩, hle⟩
    have hf := flat_at l hl j x hx i v hv
    have hcl : j * sz + i < l.length * sz := by
      have := (List.getElem?_eq_some_iff.1 hf).1
      rwa [flat_len l hl] at this
    have := World.ownsRow.cellAt h (j * sz + i) hcl
    rw [hf] at this
    rw [Nat.zero_add]; exact this
end
structure KeepS (e t sz : Nat) (X Y : World) : Prop where
  size : X.heap.size ≤ Y.heap.size
  block : ∀ (k : Nat) (cs : Array Value) (ty : TypeId) (fr : Nat × Nat), X.heap[k]? = some (.cells cs ty fr) → ty ≠ t → (ty = e → cs.size ≤ sz) → Y.heap[k]? = X.heap[k]?
section
variable {e t sz : Nat} {X Y Z : World}
theorem KeepS.refl (X : World) : KeepS e t sz X X := ⟨Nat.le_refl _, fun _ _ _ _ _ _ _ => rfl⟩
theorem KeepS.trans (h : KeepS e t sz X Y) (k : KeepS e t sz Y Z) : KeepS e t sz X Z :=
  ⟨Nat.le_trans h.size k.size, fun i cs ty fr hi h1 h2 => (k.block i cs ty fr ((h.block i cs ty fr hi h1 h2).trans hi) h1 h2).trans (h.block i cs ty fr hi h1 h2)⟩
theorem KeepS.of_below (h : Below X.heap.size X Y) : KeepS e t sz X Y := ⟨h.size, fun _ _ _ _ hi _ _ => h.block _ (heap_lt hi)⟩
theorem KeepS.loop {l : Nat} {r r' : Loop} (hl : X.heap[l]? = some (.loop r)) : KeepS e t sz X (X.putObj l (.loop r')) :=
  ⟨by simp, fun k cs ty fr hk _ _ => World.putObj_heap_other (fun e => by rw [e, hl] at hk; cases hk)⟩
theorem KeepS.own {base e' s' n : Nat} {v : Value} {xs : List Value} (h : X.ownsRow base e' s' v n xs) (k : KeepS e t sz X Y) (h1 : e' ≠ t) (h2 : e' ≠ e) : Y.ownsRow base e' s' v n xs := by
  refine ⟨h.1, ?_⟩
  rcases h.2 with hn | ⟨g, cap, cur, hv, hb, hg, rest⟩
  · exact .inl hn
  · exact .inr ⟨g, cap, cur, hv, hb, (k.block g cur e' _ hg h1 (fun e => absurd e h2)).trans hg, rest⟩
theorem KeepS.box {b : Nat} {ty : TypeId} {v : Value} (k : KeepS e t sz X Y) (h : Boxed X b ty v) (h1 : ty ≠ t) (h2 : ty = e → 1 ≤ sz) : Boxed Y b ty v := (k.block b _ _ _ h h1 (fun e => by simpa using h2 e)).trans h
theorem KeepS.heap {b : Nat} {cs : Array Value} {ty : TypeId} {fr : Nat × Nat} (k : KeepS e t sz X Y) (h : X.heap[b]? = some (.cells cs ty fr)) (h1 : ty ≠ t) (h2 : cs.size ≤ sz) : Y.heap[b]? = some (.cells cs ty fr) := (k.block b _ _ _ h h1 (fun _ => h2)).trans h
end
section
variable {P : Program}
theorem fill_one (cs z : Array Value) (sz : Nat) (hc : cs.size = sz) (hs : 0 < sz) :
    Instr.fill (fun i => some (i * sz, sz)) ((Array.range (1 * sz)).map (z[· % z.size]!)) [(0, .agg cs)] = some cs := by
  have h := Great.fill_whole hs [.agg cs] ((Array.range (1 * sz)).map (z[· % z.size]!)) (by simp [Value.cells, hc]) (by simp)
  simpa [Value.cells] using h
theorem run_lit1 (w : World) (t e : TypeId) (ie : TypeInfo) (z : Value) (cs : Array Value) (sz : Nat) (hu : P.underlying t = some (.slice e)) (hie : P.info? e = some ie) (hz : ie.zero = some z)
    (hs : ie.size = sz) (hc : cs.size = sz) (h0 : 0 < sz) (h1 : sz ≤ 1000) :
    (Instr.buildSlice t 1 #[(0, .agg cs)]).run P w = .ok (.slice (some ⟨w.heap.size, 0, none⟩) 1 1) (w.alloc (.cells cs e)) :=
  run_buildSlice w t e 1 _ cs ie z hu hie hz (by rw [hs]; omega) (by rw [hs]; omega) (by rw [hs]; exact fill_one cs z.cells sz hc h0)
theorem append_keeps (w : World) (base t ty e : Nat) (i : TypeInfo) (z : Value) (size bytes : Nat) (ht : P.underlying t = some (.slice e)) (hi : P.info? e = some i) (hz : i.zero = some z)
    (hsize : i.size = size) (hby : i.bytes = bytes) (hsz : 0 < size)
    (v : Value) (n : Nat) (xs : List Value) (hown : w.ownsRow base e size v n xs) (hv : v = .slice none 0 0 ∨ 0 < n)
    (a : Addr) (c : Nat) (news : List Value) (hl : news.length = size) (hnews : ∀ j u, news[j]? = some u → w.cell? (a.add j) = some u) (h1 : ∀ u ∈ news, u.oneCell' = true)
    (h63 : n + 1 ≤ maxLen) (hbytes : (n + 1) * bytes ≤ 140737488355328) {v' : Value} {w' : World}
    (hr : (Builtin.append_ #[t, t] ty #[v, .slice (some a) 1 c]).run P w = .ok v' w') :
    (∀ (k : Nat) (cs : Array Value) (y : TypeId) (fr : Nat × Nat), w.heap[k]? = some (.cells cs y fr) → (y = e → cs.size ≤ size) → w'.heap[k]? = w.heap[k]?) ∧ (v'.ownBlock = v.ownBlock ∨ v'.ownBlock = some w.heap.size) := by
  subst hsize
  subst hby
  have hl1 : news.length = 1 * i.size := by omega
  rcases hown.2 with ⟨rfl, rfl⟩ | ⟨g, cap, cur, rfl, hbg, hg, hnc, hcm, hcs, htake⟩
  · have h := run_append_nil (P := P) w t ty e i z ht hi hz a 1 c news hl1 hnews (by omega) (by omega) (by simp only [Nat.zero_add] at hbytes; omega)
    rw [h] at hr
    cases hr
    exact ⟨fun k cs y fr hk _ => Below.heap_alloc w.drew _ k (heap_lt hk), .inr rfl⟩
  · have hn : 0 < n := by
      rcases hv with e | e
      · cases e
      · exact e
    by_cases hroom : n + 1 ≤ cap
    · have hfit : n * i.size + news.length ≤ cur.size := by rw [hl1, hcs, ← Nat.add_mul]; exact Nat.mul_le_mul_right _ hroom
      have h := run_append_room (P := P) w t ty e i ht hi g n cap cur hg a 1 c news hl1 hnews h1 hroom hfit
      rw [h] at hr
      cases hr
      refine ⟨fun k cs y fr hk hy => setRow_other w g k _ (fun e' => ?_), .inl rfl⟩
      subst e'
      rw [hg] at hk
      cases hk
      have h2 := hy rfl
      have h3 : 2 * i.size ≤ cap * i.size := Nat.mul_le_mul_right _ (by omega)
      omega
    · have holds : ∀ j u, xs[j]? = some u → w.cell? ((⟨g, 0, none⟩ : Addr).add j) = some u := hown.cells (g := g) rfl
      have h := run_append_grow (P := P) w t ty e i z ht hi hz ⟨g, 0, none⟩ n cap xs hown.1 holds a 1 c news hl1 hnews (by omega) (by simp only [maxLen] at h63; omega) (growslice_fits (by omega) hbytes)
      rw [h] at hr
      cases hr
      exact ⟨fun k cs y fr hk _ => Below.heap_alloc w.drew _ k (heap_lt hk), .inr rfl⟩
theorem wpListIn_append_one {F : Fence} {n : Nat} (w : World) {ops : Array Oper} {rest : List Oper} {o : Oper} {a : Act} {Q : Exit → Act → World → Prop}
    (hg : o.guard = none) (s x : Operand) (t : TypeId) (hop : o.op = Op.call { callee := Callee.builtin Builtin.append, args := #[s, x], argTypes := #[t, t] })
    (base : Nat) (e : TypeId) (i : TypeInfo) (z : Value) (size bytes : Nat) (h1 : P.underlying t = some (.slice e)) (h2 : P.info? e = some i) (h3 : i.zero = some z) (h4 : i.size = size) (h5 : i.bytes = bytes) (h6 : z.cells.size = size) (h7 : 0 < size)
    (v : Value) (k : Nat) (xs : List Value) (hs : a.eval s = v) (hown : w.ownsRow base e size v k xs) (hv : v = .slice none 0 0 ∨ 0 < k) (ad : Addr) (c : Nat) (news : List Value) (hx : a.eval x = .slice (some ad) 1 c) (hn : news.length = size)
    (hc : ∀ j u, news[j]? = some u → w.cell? (ad.add j) = some u) (h1c : ∀ u ∈ news, u.oneCell' = true) (b1 : k + 1 ≤ maxLen) (b2 : (k + 1) * bytes ≤ 140737488355328) (b3 : base ≤ w.heap.size)
    (hK : ∀ v' w', w'.ownsRow base e size v' (k + 1) (xs ++ news) → w.grownBy w' v.ownBlock →
      (∀ (j : Nat) (cs : Array Value) (y : TypeId) (fr : Nat × Nat), w.heap[j]? = some (.cells cs y fr) → (y = e → cs.size ≤ size) → w'.heap[j]? = w.heap[j]?) → (v'.ownBlock = v.ownBlock ∨ v'.ownBlock = some w.heap.size) → wpListIn F n P ops Q rest (a.put o.dst v') w') :
    wpListIn F n P ops Q (o :: rest) a w := by
  refine wpListIn_plain hg fun K hK' => ?_
  have hn1 : news.length = 1 * size := by omega
  obtain ⟨v', w', hrun, r1, r2, r3⟩ := run_append_own (P := P) w base t o.type e i z size bytes h1 h2 h3 h4 h5 h6 h7 v k xs hown ad 1 c news hn1 hc h1c b1 b2 b3
  have r4 := append_keeps w base t o.type e i z size bytes h1 h2 h3 h4 h5 h7 v k xs hown hv ad c news hn hc h1c b1 b2 hrun
  unfold Oper.wpIn
  refine ⟨?_, ?_⟩
  · simp [Oper.about, hop, resolve, Target.leads, Sem.run_pure]
  · rw [Oper.semAt_plain F _ _ (by rw [hop]; intro c hc'; cases hc')]
    simp [execOp, hop, resolve, invoke, builtin, hs, hx, hrun, Result.andThen]
    exact hK' _ _ (hK v' w' r1 r2 r4.1 r4.2)
end
end Go.Proofs.YtpoigngpdcmipaaGreat
namespace Go.Proofs.YtpoigngpdcmipaaGreat
open Go.RowKit Go.Shelf
attribute [local go_sem] Oper.semAt_some
def KeepP (S : Nat → Prop) (X Y : World) : Prop := X.heap.size ≤ Y.heap.size ∧ ∀ k, S k → Y.heap[k]? = X.heap[k]?
theorem KeepP.refl (S : Nat → Prop) (X : World) : KeepP S X X := ⟨Nat.le_refl _, fun _ _ => rfl⟩
theorem KeepP.trans {S : Nat → Prop} {X Y Z : World} (h : KeepP S X Y) (k : KeepP S Y Z) : KeepP S X Z := ⟨Nat.le_trans h.1 k.1, fun i hi => (k.2 i hi).trans (h.2 i hi)⟩
theorem KeepP.cell {S : Nat → Prop} {X Y : World} (h : KeepP S X Y) {p : Addr} (hp : S p.block) : Y.cell? p = X.cell? p := World.cell?_of_block (w := X) (h.2 p.block hp)
theorem KeepP.loop {S : Nat → Prop} {X : World} {l : Nat} {r' : Loop} (hl : ¬ S l) : KeepP S X (X.putObj l (.loop r')) :=
  ⟨by simp, fun k hk => World.putObj_heap_other (fun e => hl (e ▸ hk))⟩
theorem KeepP.of_below {S : Nat → Prop} {B : Nat} {X Y : World} (h : Below B X Y) (hS : ∀ k, S k → k < B) : KeepP S X Y := ⟨h.size, fun k hk => h.block k (hS k hk)⟩
end Go.Proofs.YtpoigngpdcmipaaGreat
namespace Go.Proofs.YtpoigngpdcmipaaGreat
open Go.RowKit Go.Shelf
attribute [local go_sem] Oper.semAt_some
theorem loadv_bool {w : World} {g : Nat} {v : Value} (h : Boxed w g 4 v) : (loadVar 4 ⟨g, 0, none⟩).run Tryz.prog w = .ok v w := by
  have hagg : (isAgg 4).run Tryz.prog w = .ok false w := by
    unfold isAgg
    rw [Sem.run_bind, run_underlying Tryz.underlying4 w]; rfl
  have hc := h.cell
  simp [loadVar, Sem.run_bind, hagg, hc]
end Go.Proofs.YtpoigngpdcmipaaGreat
namespace Go.Proofs.YtpoigngpdcmipaaGreat
open Go.RowKit
end Go.Proofs.YtpoigngpdcmipaaGreat
namespace Go.Proofs.YtpoigngpdcmipaaGreat
open Go.RowKit
end Go.Proofs.YtpoigngpdcmipaaGreat
namespace Go.Proofs.YtpoigngpdcmipaaGreat
open Go.RowKit
end Go.Proofs.YtpoigngpdcmipaaGreat
namespace Go.Proofs.YtpoigngpdcmipaaGreat
open Go.RowKit
end Go.Proofs.YtpoigngpdcmipaaGreat
namespace Go.Proofs.YtpoigngpdcmipaaGreat
open Go.RowKit Go.Shelf
attribute [local go_sem] Oper.semAt_some
end Go.Proofs.YtpoigngpdcmipaaGreat
namespace Go.Proofs.YtpoigngpdcmipaaGreat
open Go.RowKit Go.Shelf
attribute [local go_sem] Oper.semAt_some
theorem nat_ne {a b : Nat} (h : (a == b) = false) : a ≠ b := by simpa using h
theorem own_slice {w : World} {base e s n : Nat} {v : Value} {xs : List Value} (h : w.ownsRow base e s v n xs) : ∃ A c, v = .slice A n c := by
  rcases h.2 with ⟨e, h0⟩ | ⟨g, cap, cur, e, _⟩
  · exact ⟨none, 0, by rw [e, h0]⟩
  · exact ⟨_, cap, e⟩
end Go.Proofs.YtpoigngpdcmipaaGreat
namespace Go.Proofs.YtpoigngpdcmipaaGreat
open Go.RowKit Go.Shelf
structure X4 where
  q : P4
  A : Option Addr
  c : Nat
  A' : Option Addr
  c' : Nat
def cl4 (x : X4) : List Value := (v4a x.q x.A x.c x.A' x.c').toList
def Own4 (W : World) (base : Nat) (x : X4) : Prop := W.ownsRow base 5 1 (.slice x.A x.q.opt.length x.c) x.q.opt.length (row x.q.opt) ∧ W.ownsRow base 5 1 (.slice x.A' x.q.dat.length x.c') x.q.dat.length (row x.q.dat)
theorem own_setCellB {w : World} {base e sz n t : Nat} {v : Value} {xs : List Value} {cs : Array Value} (h : w.ownsRow base e sz v n xs) {g i : Nat} {u : Value} (hg : w.heap[g]? = some (.cells cs t (0, 0))) (hte : t ≠ e) : (w.setCell ⟨g, i, none⟩ u).ownsRow base e sz v n xs := by
  refine ⟨h.1, ?_⟩
  rcases h.2 with hn | ⟨g', cap, cur, hv, hb, hg', rest⟩
  · exact .inl hn
  · refine .inr ⟨g', cap, cur, hv, hb, (heap_setCell_other w ⟨g, i, none⟩ g' u (fun e' => ?_)).trans hg', rest⟩
    have e'' : g' = g := e'
    subst e''
    rw [hg'] at hg
    cases hg; exact hte rfl
theorem own_setRowB {w : World} {base e sz n t : Nat} {v : Value} {xs : List Value} {cs cs' : Array Value} (h : w.ownsRow base e sz v n xs) {g : Nat} (hg : w.heap[g]? = some (.cells cs t (0, 0))) (hte : t ≠ e) : (w.setRow g cs').ownsRow base e sz v n xs := by
  refine ⟨h.1, ?_⟩
  rcases h.2 with hn | ⟨g', cap, cur, hv, hb, hg', rest⟩
  · exact .inl hn
  · refine .inr ⟨g', cap, cur, hv, hb, (setRow_other w g g' cs' (fun e' => ?_)).trans hg', rest⟩
    subst e'
    rw [hg'] at hg
    cases hg; exact hte rfl
end Go.Proofs.YtpoigngpdcmipaaGreat
namespace Go.Proofs.YtpoigngpdcmipaaGreat
open Go.RowKit
def st6 (mtu : Int) : Int := (mtu - 48) - (mtu - 48) % 8
def fh6 (q : P6) (id : Int) (off : Nat) (more : Bool) : F6 := ⟨q.next, (off : Int), id, more⟩
def one6 (q : P6) (id : Int) (off n : Nat) (more : Bool) : P6 := { q with next := 44, dat := bldF (fh6 q id off more) ++ (q.dat.drop off).take n }
def fg6 (q : P6) (id mtu : Int) : Nat → Nat → List P6
  | 0, _ => []
  | f + 1, off => if (q.dat.length : Int) - (off : Int) > mtu - 48 then one6 q id off (st6 mtu).toNat true :: fg6 q id mtu f (off + (st6 mtu).toNat) else [one6 q id off (q.dat.length - off) false]
theorem st6_bd {mtu : Int} (h : 1280 ≤ mtu) : 8 ≤ st6 mtu ∧ st6 mtu ≤ mtu - 48 ∧ st6 mtu % 8 = 0 := by unfold st6; omega
theorem fg6_fuel (q : P6) (id mtu : Int) (h : 1280 ≤ mtu) : ∀ (f g off : Nat), q.dat.length < f + off → q.dat.length < g + off → off ≤ q.dat.length → fg6 q id mtu f off = fg6 q id mtu g off
  | 0, _, off, h1, _, h3 => by omega
  | _ + 1, 0, off, _, h2, h3 => by omega
  | f + 1, g + 1, off, h1, h2, h3 => by
    have hs := st6_bd h
    rw [fg6, fg6]
    by_cases hc : (q.dat.length : Int) - (off : Int) > mtu - 48
    · rw [if_pos hc, if_pos hc, fg6_fuel q id mtu h f g (off + (st6 mtu).toNat) (by omega) (by omega) (by omega)]
    · rw [if_neg hc, if_neg hc]
def rst6 (q : P6) (id mtu : Int) (off : Nat) : List P6 := fg6 q id mtu (q.dat.length + 1) off
theorem rst6_more {q : P6} {id mtu : Int} {off : Nat} (h : 1280 ≤ mtu) (hc : (q.dat.length : Int) - (off : Int) > mtu - 48) : rst6 q id mtu off = one6 q id off (st6 mtu).toNat true :: rst6 q id mtu (off + (st6 mtu).toNat) := by
  have hs := st6_bd h
  rw [rst6, fg6, if_pos hc, rst6]
  congr 1
  exact fg6_fuel q id mtu h _ _ _ (by omega) (by omega) (by omega)
theorem rst6_last {q : P6} {id mtu : Int} {off : Nat} (hc : ¬ (q.dat.length : Int) - (off : Int) > mtu - 48) : rst6 q id mtu off = [one6 q id off (q.dat.length - off) false] := by rw [rst6, fg6, if_neg hc]
def cutE6 (q : P6) (id mtu : Int) : Int := if mtu < 1280 ∨ mtu > 65535 ∨ id < 0 ∨ id > 4294967295 then 1 else chk6 q
def cutL6 (q : P6) (id mtu : Int) : List P6 := if cutE6 q id mtu = 0 then (if size6 q ≤ mtu then [q] else rst6 q id mtu 0) else []
def prtF (q : P6) : F6 := if q.next = 44 then prsF q.dat else frz
def prtB (q : P6) : List UInt8 := if q.next = 44 then rstF q.dat else []
def prtO (q : P6) : Bool := decide (q.next = 44) && decide (8 ≤ q.dat.length)
structure Cut6 (q : P6) (id mtu : Int) : Prop where
  lo : 1280 ≤ mtu
  hi : mtu ≤ 65535
  id0 : 0 ≤ id
  id1 : id ≤ 4294967295
  next0 : 0 ≤ q.next
  next1 : q.next ≤ 255
  len : q.dat.length ≤ 65535
theorem cutE6_ok {q : P6} {id mtu : Int} (h : cutE6 q id mtu = 0) : Cut6 q id mtu ∧ chk6 q = 0 := by
  unfold cutE6 at h
  split at h
  · cases h
  · rename_i hc
    have hk := h
    unfold chk6 at h
    split at h
    · rename_i ha
      split at h
      · cases h
      · obtain ⟨_, _, h1, h2, _⟩ := ha
        exact ⟨⟨by omega, by omega, by omega, by omega, h1, h2, by omega⟩, hk⟩
    · cases h
theorem okF_at {q : P6} {id mtu : Int} (h : Cut6 q id mtu) {off : Nat} (more : Bool) (h1 : off ≤ q.dat.length) (h2 : off % 8 = 0) : okF (fh6 q id off more) := by
  have := h.len
  exact ⟨h.next0, h.next1, by show (0 : Int) ≤ (off : Int); omega, by show (off : Int) ≤ 65528; omega, by show (off : Int) % 8 = 0; omega, h.id0, by have := h.id1; show id < _; omega⟩
theorem bldF_eight {f : F6} (h : okF f) : (bldF f).length = 8 := by rw [bldF, if_pos h]; simp [bytF, be2, be4]
theorem prt_one {q : P6} {id mtu : Int} (h : Cut6 q id mtu) {off n : Nat} (more : Bool) (h1 : off ≤ q.dat.length) (h2 : off % 8 = 0) :
    prtF (one6 q id off n more) = fh6 q id off more ∧ prtB (one6 q id off n more) = (q.dat.drop off).take n ∧ prtO (one6 q id off n more) = true ∧ size6 (one6 q id off n more) = 48 + (((q.dat.drop off).take n).length : Int) := by
  have hk := okF_at h more h1 h2
  obtain ⟨b1, b2, _⟩ := backF (fh6 q id off more) ((q.dat.drop off).take n) hk
  have hl : (one6 q id off n more).dat.length = 8 + ((q.dat.drop off).take n).length := by show (bldF _ ++ _).length = _; rw [List.length_append, bldF_eight hk]
  refine ⟨?_, ?_, ?_, ?_⟩
  · rw [prtF, if_pos (show (one6 q id off n more).next = 44 from rfl)]; exact b1
  · rw [prtB, if_pos (show (one6 q id off n more).next = 44 from rfl)]; exact b2
  · rw [prtO, hl]; simp [one6]
  · unfold size6; rw [hl]; omega
def behs (l : List P6) : List UInt8 := l.flatMap prtB
theorem behs_take_le (l : List P6) (k : Nat) : (behs (l.take k)).length ≤ (behs l).length := by
  conv => rhs; rw [← List.take_append_drop k l]
  simp only [behs, List.flatMap_append, List.length_append]; omega
structure Frag6 (q : P6) (id mtu : Int) (off : Nat) (l : List P6) : Prop where
  ne : 0 < l.length
  at_ : ∀ i (h : i < l.length), prtO l[i] = true ∧ size6 l[i] ≤ mtu ∧ (prtF l[i]).off = ((off + (behs (l.take i)).length : Nat) : Int) ∧ (prtF l[i]).id = id ∧ (prtF l[i]).next = q.next ∧ (prtF l[i]).more = decide (i + 1 < l.length) ∧
    l[i].src = q.src ∧ l[i].dst = q.dst ∧ l[i].hop = q.hop
  all : behs l = q.dat.drop off
theorem frags6 {q : P6} {id mtu : Int} (h : Cut6 q id mtu) : ∀ (f off : Nat), q.dat.length < f + off → off ≤ q.dat.length → off % 8 = 0 → Frag6 q id mtu off (rst6 q id mtu off)
  | 0, off, h1, h2, _ => by omega
  | f + 1, off, h1, h2, h3 => by
    have hs := st6_bd h.lo
    by_cases hc : (q.dat.length : Int) - (off : Int) > mtu - 48
    · have ih := frags6 h f (off + (st6 mtu).toNat) (by omega) (by omega) (by omega)
      obtain ⟨p1, p2, p3, p4⟩ := prt_one h (n := (st6 mtu).toNat) true h2 h3
      have hl : ((q.dat.drop off).take (st6 mtu).toNat).length = (st6 mtu).toNat := by simp; omega
      rw [rst6_more h.lo hc]
      refine ⟨by simp, fun i hi => ?_, ?_⟩
      · cases i with
        | zero =>
          have hn := ih.ne
          refine ⟨p3, by show size6 (one6 q id off (st6 mtu).toNat true) ≤ mtu; rw [p4, hl]; omega, ?_, by show (prtF (one6 q id off (st6 mtu).toNat true)).id = _; rw [p1]; rfl, by show (prtF (one6 q id off (st6 mtu).toNat true)).next = _; rw [p1]; rfl, ?_, rfl, rfl, rfl⟩
          · show (prtF (one6 q id off (st6 mtu).toNat true)).off = _; rw [p1]; simp [behs, fh6]
          · show (prtF (one6 q id off (st6 mtu).toNat true)).more = _; rw [p1]; simp [fh6]; omega
        | succ i =>
          have hi' : i < (rst6 q id mtu (off + (st6 mtu).toNat)).length := by simpa using hi
          obtain ⟨g1, g2, g3, g4, g5, g6, g7⟩ := ih.at_ i hi'
          refine ⟨g1, g2, ?_, g4, g5, ?_, g7⟩
          · refine g3.trans ?_
            simp only [List.take_succ_cons, behs, List.flatMap_cons, List.length_append, p2, hl]; omega
          · refine g6.trans ?_
            simp
      · show prtB _ ++ behs _ = _
        rw [p2, ih.all, ← List.drop_drop, List.take_append_drop]
    · obtain ⟨p1, p2, p3, p4⟩ := prt_one h (n := q.dat.length - off) false h2 h3
      have hl : (q.dat.drop off).take (q.dat.length - off) = q.dat.drop off := List.take_of_length_le (by simp)
      have hl2 : (q.dat.drop off).length = q.dat.length - off := by simp
      rw [rst6_last hc]
      refine ⟨by simp, fun i hi => ?_, ?_⟩
      · have hi0 : i = 0 := by simpa using hi
        subst hi0
        refine ⟨p3, by show size6 (one6 q id off (q.dat.length - off) false) ≤ mtu; rw [p4, hl, hl2]; omega, ?_, by show (prtF (one6 q id off (q.dat.length - off) false)).id = _; rw [p1]; rfl, by show (prtF (one6 q id off (q.dat.length - off) false)).next = _; rw [p1]; rfl, ?_, rfl, rfl, rfl⟩
        · show (prtF (one6 q id off (q.dat.length - off) false)).off = _; rw [p1]; simp [behs, fh6]
        · show (prtF (one6 q id off (q.dat.length - off) false)).more = _; rw [p1]; simp [fh6]
      · show prtB _ ++ [] = _
        rw [p2, hl, List.append_nil]
theorem cut6_one {q : P6} {id mtu : Int} (h : cutE6 q id mtu = 0) (hl : (cutL6 q id mtu).length = 1) : cutL6 q id mtu = [q] ∧ size6 q ≤ mtu := by
  obtain ⟨hc, _⟩ := cutE6_ok h
  unfold cutL6 at hl ⊢
  rw [if_pos h] at hl ⊢
  by_cases hs : size6 q ≤ mtu
  · rw [if_pos hs]; exact ⟨rfl, hs⟩
  · rw [if_neg hs] at hl
    have hsz : size6 q = 40 + (q.dat.length : Int) := rfl
    have hst := st6_bd hc.lo
    rw [rst6_more hc.lo (by omega)] at hl
    have := (frags6 hc (q.dat.length + 1) (0 + (st6 mtu).toNat) (by omega) (by omega) (by omega)).ne
    simp only [List.length_cons] at hl; omega
theorem cut6_many {q : P6} {id mtu : Int} (h : cutE6 q id mtu = 0) (hl : (cutL6 q id mtu).length ≠ 1) : Frag6 q id mtu 0 (cutL6 q id mtu) := by
  obtain ⟨hc, _⟩ := cutE6_ok h
  unfold cutL6 at hl ⊢
  rw [if_pos h] at hl ⊢
  by_cases hs : size6 q ≤ mtu
  · rw [if_pos hs] at hl; exact absurd rfl hl
  · rw [if_neg hs]; exact frags6 hc (q.dat.length + 1) 0 (by omega) (by omega) rfl
end Go.Proofs.YtpoigngpdcmipaaGreat
namespace Go.Proofs.YtpoigngpdcmipaaGreat
open Go.RowKit
section
variable (f : F6) (w : World)
set_option maxRecDepth 100000 in
set_option maxHeartbeats 400000 in
theorem c6bfrag : Calls Tryz.prog 97 #[frv f] w fun e w' => ∃ v, e = .returned (.tuple #[v, .int .i64 (errF f)]) ∧ Made w w' v (bldF f) := by
  have hB : Below w.heap.size w (w.alloc (.cells (fra f) 42)) := (Below.refl w.heap.size w).alloc (Nat.le_refl _) _
  have hAt := AtF.new (f := f) w
  have hz : w.heap.size < (w.alloc (.cells (fra f) 42)).heap.size := by simp
  unfold frv
  rw [show #[Value.int .i64 f.next, .int .i64 f.off, .int .i64 f.id, .bool f.more] = fra f from rfl]
  have HO := Lib.hid (okF_iff f)
  go_enter Tryz.func97, Tryz.ntmps97
  go_wp2_with fail
  generalize w.alloc (.cells (fra f) 42) = W at *
  by_cases p0 : 0 ≤ f.off
  · have ptm : Int.tmod f.off 8 = f.off % 8 := Int.tmod_eq_emod_of_nonneg p0
    obtain ⟨P, hP⟩ : ∃ P, decide (f.off ≤ 65528) = P := ⟨_, rfl⟩
    obtain ⟨M, hM⟩ : ∃ M, (f.off % 8 == 0) = M := ⟨_, rfl⟩
    have HA : Hid (allB [fitsB f.next 1, P, M, fitsB f.id 4] = decide (okF f)) := Lib.hid (by
      rw [Bool.eq_iff_iff, decide_eq_true_iff, HO.out, ← hP, ← hM]; simp [allB, offB, mulB, p0])
    refine wp_region_held_drew (S := fun w' => Below W.heap.size W w') (by kernel_rfl) (Below.refl _ W).drew (fun hS => ?_)
    refine held_pure (i := 0) (oi := ⟨some 5, _, _, _, _, _⟩) rfl (by kernel_rfl) (by kernel_rfl) (by kernel_rfl) (fun _ _ _ h => h) (by rfl) (v := ?_) (fun w hSw => ?_) hS (fun hS => ?_)
    rotate_left
    · go_simp; try with_reducible rfl
    try go_frame
    refine held_pure (i := 1) (oi := ⟨some 6, _, _, _, _, _⟩) rfl (by kernel_rfl) (by kernel_rfl) (by kernel_rfl) (fun _ _ _ h => h) (by rfl) (fun w hSw => run_load_int rfl rfl (hAt.below hSw (by omega)).next) hS (fun hS => ?_)
    try go_frame
    refine held_pure (i := 3) (oi := ⟨some 8, _, _, _, _, _⟩) rfl (by kernel_rfl) (by kernel_rfl) (by kernel_rfl) (fun _ _ _ h => h) (by rfl) (v := ?_) (fun w hSw => ?_) hS (fun hS => ?_)
    rotate_left
    · go_simp; try with_reducible rfl
    try go_frame
    refine held_pure (i := 4) (oi := ⟨some 9, _, _, _, _, _⟩) rfl (by kernel_rfl) (by kernel_rfl) (by kernel_rfl) (fun _ _ _ h => h) (by rfl) (fun w hSw => run_load_int rfl rfl (hAt.below hSw (by omega)).off) hS (fun hS => ?_)
    try go_frame
    refine held_pure (i := 5) (oi := ⟨some 10, _, _, _, _, _⟩) rfl (by kernel_rfl) (by kernel_rfl) (by kernel_rfl) (fun _ _ _ h => h) (by rfl) (v := ?_) (fun w hSw => ?_) hS (fun hS => ?_)
    rotate_left
    · go_simp; try with_reducible rfl
    try go_frame
    refine held_pure (i := 11) (oi := ⟨some 16, _, _, _, _, _⟩) rfl (by kernel_rfl) (by kernel_rfl) (by kernel_rfl) (fun _ _ _ h => h) (by rfl) (v := ?_) (fun w hSw => ?_) hS (fun hS => ?_)
    rotate_left
    · go_simp; try with_reducible rfl
    try go_frame
    refine held_pure (i := 12) (oi := ⟨some 17, _, _, _, _, _⟩) rfl (by kernel_rfl) (by kernel_rfl) (by kernel_rfl) (fun _ _ _ h => h) (by rfl) (fun w hSw => run_load_int rfl rfl (hAt.below hSw (by omega)).off) hS (fun hS => ?_)
    try go_frame
    refine held_pure (i := 13) (oi := ⟨some 18, _, _, _, _, _⟩) rfl (by kernel_rfl) (by kernel_rfl) (by kernel_rfl) (fun _ _ _ h => h) (by rfl) (v := ?_) (fun w hSw => ?_) hS (fun hS => ?_)
    rotate_left
    · go_simp; try with_reducible rfl
    try go_frame
    refine held_pure (i := 14) (oi := ⟨some 19, _, _, _, _, _⟩) rfl (by kernel_rfl) (by kernel_rfl) (by kernel_rfl) (fun _ _ _ h => h) (by rfl) (v := ?_) (fun w hSw => ?_) hS (fun hS => ?_)
    rotate_left
    · go_simp; try with_reducible rfl
    try go_frame
    refine held_pure (i := 15) (oi := ⟨some 20, _, _, _, _, _⟩) rfl (by kernel_rfl) (by kernel_rfl) (by kernel_rfl) (fun _ _ _ h => h) (by rfl) (v := ?_) (fun w hSw => ?_) hS (fun hS => ?_)
    rotate_left
    · go_simp; try with_reducible rfl
    try go_frame
    refine held_pure (i := 16) (oi := ⟨some 21, _, _, _, _, _⟩) rfl (by kernel_rfl) (by kernel_rfl) (by kernel_rfl) (fun _ _ _ h => h) (by rfl) (fun w hSw => run_load_int rfl rfl (hAt.below hSw (by omega)).id) hS (fun hS => ?_)
    try go_frame
    refine wpAnyH_ready (rs := [2]) (by kernel_rfl) (by simp) (AllReadyH.cons (o := ⟨some 7, _, _, _, _, _⟩) rfl (fun K hK => ?_) AllReadyH.nil)
    rw [if_pos (by rfl)]
    go_simp
    refine (fits_any _ _ _).mono ?_
    rintro e w2 ⟨rfl, rfl⟩
    show K _ _
    refine hK.out _ _ hS (fun hS => ?_)
    clear hK K
    try go_frame
    refine held_pure (i := 6) (oi := ⟨some 11, _, _, _, _, _⟩) rfl (by kernel_rfl) (by kernel_rfl) (by kernel_rfl) (fun _ _ _ h => h) (by rfl) (v := ?_) (fun w hSw => ?_) hS (fun hS => ?_)
    rotate_left
    · go_simp; try with_reducible rfl
    try go_frame
    refine held_pure (i := 7) (oi := ⟨some 12, _, _, _, _, _⟩) rfl (by kernel_rfl) (by kernel_rfl) (by kernel_rfl) (fun _ _ _ h => h) (by rfl) (v := ?_) (fun w hSw => ?_) hS (fun hS => ?_)
    rotate_left
    · go_simp; try with_reducible rfl
    try go_frame
    refine held_pure (i := 8) (oi := ⟨some 13, _, _, _, _, _⟩) rfl (by kernel_rfl) (by kernel_rfl) (by kernel_rfl) (fun _ _ _ h => h) (by rfl) (fun w hSw => run_load_int rfl rfl (hAt.below hSw (by omega)).off) hS (fun hS => ?_)
    try go_frame
    refine held_pure (i := 9) (oi := ⟨some 14, _, _, _, _, _⟩) rfl (by kernel_rfl) (by kernel_rfl) (by kernel_rfl) (fun _ _ _ h => h) (by rfl) (v := ?_) (fun w hSw => ?_) hS (fun hS => ?_)
    rotate_left
    · go_simp; try with_reducible rfl
    try go_frame
    refine held_pure (i := 10) (oi := ⟨some 15, _, _, _, _, _⟩) rfl (by kernel_rfl) (by kernel_rfl) (by kernel_rfl) (fun _ _ _ h => h) (by rfl) (v := ?_) (fun w hSw => ?_) hS (fun hS => ?_)
    rotate_left
    · go_simp; try with_reducible rfl
    try go_frame
    refine wpAnyH_ready (rs := [17]) (by kernel_rfl) (by simp) (AllReadyH.cons (o := ⟨some 22, _, _, _, _, _⟩) rfl (fun K hK => ?_) AllReadyH.nil)
    rw [if_pos (by rfl)]
    go_simp
    refine (fits_any _ _ _).mono ?_
    rintro e w17 ⟨rfl, rfl⟩
    show K _ _
    refine hK.out _ _ hS (fun hS => ?_)
    clear hK K
    try go_frame
    refine wpAnyH_ready (rs := [18]) (by kernel_rfl) (by simp) (AllReadyH.cons (o := ⟨some 23, _, _, _, _, _⟩) rfl (fun K hK => ?_) AllReadyH.nil)
    rw [if_pos (by rfl)]
    go_simp
    refine hK.out _ _ (hS.alloc hS.size _) (fun hS => ?_)
    clear hK K
    try go_frame
    refine wpAnyH_ready (rs := [19]) (by kernel_rfl) (by simp) (AllReadyH.cons (o := ⟨some 24, _, _, _, _, _⟩) rfl (fun K hK => ?_) AllReadyH.nil)
    rw [if_pos (by rfl)]
    go_simp
    refine (all6_new [fitsB f.next 1, P, M, fitsB f.id 4] _ 4 _ W (by rfl) (by rfl) (by simp)).mono ?_
    rintro e w19 ⟨rfl, rfl⟩
    show K _ _
    refine hK.out _ _ hS (fun hS => ?_)
    clear hK K
    try go_frame
    refine held_pure (i := 20) (oi := ⟨some 25, _, _, _, _, _⟩) rfl (by kernel_rfl) (by kernel_rfl) (by kernel_rfl) (fun _ _ _ h => h) (by rfl) (v := ?_) (fun w hSw => ?_) hS (fun hS => ?_)
    rotate_left
    · go_simp; try with_reducible rfl
    try go_frame
    refine wpAnyH_done (by kernel_rfl) ?_ _
    have hz2 := hS.size
    by_cases ho : okF f
    · have E := HA.out
      rw [show decide (okF f) = true from decide_eq_true ho] at E
      rw [E]
      have HE := Lib.hid (show errF f = 0 by rw [errF, if_pos ho])
      have ha := hAt.below hS (by omega)
      have k0 := ha.next; have k1 := ha.off; have k2 := ha.id; have k3 := ha.more
      have hob : f.off ≤ 65528 := ho.2.2.2.1
      clear ha hAt E HA hP hM
      generalize (W.alloc (.cells _ 4)).drew = W2 at *
      cases hm : f.more
      · have e1 : f.off + bit f.more 1 = f.off := by rw [hm]; simp [bit]
        have HL := Lib.hid (putL_F f (f.off) ho e1.symm)
        rw [hm] at k3
        clear hm e1
        go_wp2_with (go_at_call 119; refine (put6_new [(f.next, 1), (0, 1), (f.off, 2), (f.id, 4)] _ 4 _ W2 (by rfl) (by rfl) (by simp) (by simp)).mono ?_; rintro e w3 ⟨v3, rfl, m3⟩)
        go_ret2
        rw [HL.out] at m3
        exact ⟨v3, by rw [HE.out]; rfl, m3.after (hB.trans (hS.mono (by omega)))⟩
      · have e1 : f.off + bit f.more 1 = f.off + 1 := by rw [hm]; simp [bit]
        have HL := Lib.hid (putL_F f (f.off + 1) ho e1.symm)
        rw [hm] at k3
        clear hm e1
        go_wp2_with (go_at_call 119; refine (put6_new [(f.next, 1), (0, 1), (f.off + 1, 2), (f.id, 4)] _ 4 _ W2 (by rfl) (by rfl) (by simp) (by simp)).mono ?_; rintro e w3 ⟨v3, rfl, m3⟩)
        go_ret2
        rw [HL.out] at m3
        exact ⟨v3, by rw [HE.out]; rfl, m3.after (hB.trans (hS.mono (by omega)))⟩
    · have E := HA.out
      rw [show decide (okF f) = false from decide_eq_false ho] at E
      rw [E]
      have HE := Lib.hid (show errF f = 1 by rw [errF, if_neg ho])
      have HN := Lib.hid (show bldF f = [] by rw [bldF, if_neg ho])
      clear ho E HA
      go_wp2_with fail
      go_ret2
      exact ⟨.slice none 0 0, by rw [HE.out]; rfl, by rw [HN.out]; exact Made.nil _ _ (hB.trans (hS.mono (by omega)))⟩
  · have p0' : decide (0 ≤ f.off) = false := by simpa using p0
    obtain ⟨M, hM⟩ : ∃ M, (Int.tmod f.off 8 == 0) = M := ⟨_, rfl⟩
    refine wp_region_held_drew (S := fun w' => Below W.heap.size W w') (by kernel_rfl) (Below.refl _ W).drew (fun hS => ?_)
    refine held_pure (i := 0) (oi := ⟨some 5, _, _, _, _, _⟩) rfl (by kernel_rfl) (by kernel_rfl) (by kernel_rfl) (fun _ _ _ h => h) (by rfl) (v := ?_) (fun w hSw => ?_) hS (fun hS => ?_)
    rotate_left
    · go_simp; try with_reducible rfl
    try go_frame
    refine held_pure (i := 1) (oi := ⟨some 6, _, _, _, _, _⟩) rfl (by kernel_rfl) (by kernel_rfl) (by kernel_rfl) (fun _ _ _ h => h) (by rfl) (fun w hSw => run_load_int rfl rfl (hAt.below hSw (by omega)).next) hS (fun hS => ?_)
    try go_frame
    refine held_pure (i := 3) (oi := ⟨some 8, _, _, _, _, _⟩) rfl (by kernel_rfl) (by kernel_rfl) (by kernel_rfl) (fun _ _ _ h => h) (by rfl) (v := ?_) (fun w hSw => ?_) hS (fun hS => ?_)
    rotate_left
    · go_simp; try with_reducible rfl
    try go_frame
    refine held_pure (i := 4) (oi := ⟨some 9, _, _, _, _, _⟩) rfl (by kernel_rfl) (by kernel_rfl) (by kernel_rfl) (fun _ _ _ h => h) (by rfl) (fun w hSw => run_load_int rfl rfl (hAt.below hSw (by omega)).off) hS (fun hS => ?_)
    try go_frame
    refine held_pure (i := 5) (oi := ⟨some 10, _, _, _, _, _⟩) rfl (by kernel_rfl) (by kernel_rfl) (by kernel_rfl) (fun _ _ _ h => h) (by rfl) (v := ?_) (fun w hSw => ?_) hS (fun hS => ?_)
    rotate_left
    · go_simp; try with_reducible rfl
    try go_frame
    refine held_pure (i := 11) (oi := ⟨some 16, _, _, _, _, _⟩) rfl (by kernel_rfl) (by kernel_rfl) (by kernel_rfl) (fun _ _ _ h => h) (by rfl) (v := ?_) (fun w hSw => ?_) hS (fun hS => ?_)
    rotate_left
    · go_simp; try with_reducible rfl
    try go_frame
    refine held_pure (i := 12) (oi := ⟨some 17, _, _, _, _, _⟩) rfl (by kernel_rfl) (by kernel_rfl) (by kernel_rfl) (fun _ _ _ h => h) (by rfl) (fun w hSw => run_load_int rfl rfl (hAt.below hSw (by omega)).off) hS (fun hS => ?_)
    try go_frame
    refine held_pure (i := 13) (oi := ⟨some 18, _, _, _, _, _⟩) rfl (by kernel_rfl) (by kernel_rfl) (by kernel_rfl) (fun _ _ _ h => h) (by rfl) (v := ?_) (fun w hSw => ?_) hS (fun hS => ?_)
    rotate_left
    · go_simp; try with_reducible rfl
    try go_frame
    refine held_pure (i := 14) (oi := ⟨some 19, _, _, _, _, _⟩) rfl (by kernel_rfl) (by kernel_rfl) (by kernel_rfl) (fun _ _ _ h => h) (by rfl) (v := ?_) (fun w hSw => ?_) hS (fun hS => ?_)
    rotate_left
    · go_simp; try with_reducible rfl
    try go_frame
    refine held_pure (i := 15) (oi := ⟨some 20, _, _, _, _, _⟩) rfl (by kernel_rfl) (by kernel_rfl) (by kernel_rfl) (fun _ _ _ h => h) (by rfl) (v := ?_) (fun w hSw => ?_) hS (fun hS => ?_)
    rotate_left
    · go_simp; try with_reducible rfl
    try go_frame
    refine held_pure (i := 16) (oi := ⟨some 21, _, _, _, _, _⟩) rfl (by kernel_rfl) (by kernel_rfl) (by kernel_rfl) (fun _ _ _ h => h) (by rfl) (fun w hSw => run_load_int rfl rfl (hAt.below hSw (by omega)).id) hS (fun hS => ?_)
    try go_frame
    refine wpAnyH_ready (rs := [2]) (by kernel_rfl) (by simp) (AllReadyH.cons (o := ⟨some 7, _, _, _, _, _⟩) rfl (fun K hK => ?_) AllReadyH.nil)
    rw [if_pos (by rfl)]
    go_simp
    refine (fits_any _ _ _).mono ?_
    rintro e w2 ⟨rfl, rfl⟩
    show K _ _
    refine hK.out _ _ hS (fun hS => ?_)
    clear hK K
    try go_frame
    refine held_pure (i := 6) (oi := ⟨some 11, _, _, _, _, _⟩) rfl (by kernel_rfl) (by kernel_rfl) (by kernel_rfl) (fun _ _ _ h => h) (by rfl) (v := ?_) (fun w hSw => ?_) hS (fun hS => ?_)
    rotate_left
    · go_simp; try with_reducible rfl
    try go_frame
    refine held_skip (i := 7) (oi := ⟨some 12, _, _, _, _, _⟩) rfl (by kernel_rfl) (by kernel_rfl) (by kernel_rfl) (fun _ _ _ h => h) (by rfl) hS (fun hS => ?_)
    try go_frame
    refine held_skip (i := 8) (oi := ⟨some 13, _, _, _, _, _⟩) rfl (by kernel_rfl) (by kernel_rfl) (by kernel_rfl) (fun _ _ _ h => h) (by rfl) hS (fun hS => ?_)
    try go_frame
    refine held_skip (i := 9) (oi := ⟨some 14, _, _, _, _, _⟩) rfl (by kernel_rfl) (by kernel_rfl) (by kernel_rfl) (fun _ _ _ h => h) (by rfl) hS (fun hS => ?_)
    try go_frame
    refine held_pure (i := 10) (oi := ⟨some 15, _, _, _, _, _⟩) rfl (by kernel_rfl) (by kernel_rfl) (by kernel_rfl) (fun _ _ _ h => h) (by rfl) (v := ?_) (fun w hSw => ?_) hS (fun hS => ?_)
    rotate_left
    · go_simp; try with_reducible rfl
    try go_frame
    refine wpAnyH_ready (rs := [17]) (by kernel_rfl) (by simp) (AllReadyH.cons (o := ⟨some 22, _, _, _, _, _⟩) rfl (fun K hK => ?_) AllReadyH.nil)
    rw [if_pos (by rfl)]
    go_simp
    refine (fits_any _ _ _).mono ?_
    rintro e w17 ⟨rfl, rfl⟩
    show K _ _
    refine hK.out _ _ hS (fun hS => ?_)
    clear hK K
    try go_frame
    refine wpAnyH_ready (rs := [18]) (by kernel_rfl) (by simp) (AllReadyH.cons (o := ⟨some 23, _, _, _, _, _⟩) rfl (fun K hK => ?_) AllReadyH.nil)
    rw [if_pos (by rfl)]
    go_simp
    refine hK.out _ _ (hS.alloc hS.size _) (fun hS => ?_)
    clear hK K
    try go_frame
    refine wpAnyH_ready (rs := [19]) (by kernel_rfl) (by simp) (AllReadyH.cons (o := ⟨some 24, _, _, _, _, _⟩) rfl (fun K hK => ?_) AllReadyH.nil)
    rw [if_pos (by rfl)]
    go_simp
    refine (all6_new [fitsB f.next 1, false, M, fitsB f.id 4] _ 4 _ W (by rfl) (by rfl) (by simp)).mono ?_
    rintro e w19 ⟨rfl, rfl⟩
    show K _ _
    refine hK.out _ _ hS (fun hS => ?_)
    clear hK K
    try go_frame
    refine held_pure (i := 20) (oi := ⟨some 25, _, _, _, _, _⟩) rfl (by kernel_rfl) (by kernel_rfl) (by kernel_rfl) (fun _ _ _ h => h) (by rfl) (v := ?_) (fun w hSw => ?_) hS (fun hS => ?_)
    rotate_left
    · go_simp; try with_reducible rfl
    try go_frame
    refine wpAnyH_done (by kernel_rfl) ?_ _
    have hz2 := hS.size
    have ho : ¬ okF f := fun h => p0 h.2.2.1
    have E : allB [fitsB f.next 1, false, M, fitsB f.id 4] = false := by simp [allB]
    rw [E]
    have HE := Lib.hid (show errF f = 1 by rw [errF, if_neg ho])
    have HN := Lib.hid (show bldF f = [] by rw [bldF, if_neg ho])
    clear ho E
    go_wp2_with fail
    go_ret2
    exact ⟨.slice none 0 0, by rw [HE.out]; rfl, by rw [HN.out]; exact Made.nil _ _ (hB.trans (hS.mono (by omega)))⟩
end
end Go.Proofs.YtpoigngpdcmipaaGreat
namespace Go.Proofs.YtpoigngpdcmipaaGreat
open Go.RowKit
set_option maxRecDepth 100000 in
set_option maxHeartbeats 1000000 in
theorem c6pfrag (A : Option Addr) (b : List UInt8) (c B : Nat) (w : World) (hR : Arg w B A c b) (hB : B ≤ w.heap.size) (hl : b.length ≤ 1000000) :
    Calls Tryz.prog 32 #[.slice A b.length c] w fun e w' => ∃ v, e = .returned (.tuple #[frv (prsF b), v, .int .i64 (prsG b)]) ∧ Made w w' v (rstF b) := by
  have hOR := OwnR.new w (fra frz) 42
  have hg0 := World.alloc_heap_new w (.cells (fra frz) 42)
  have hcap := hR.cap
  go_enter Tryz.func32, Tryz.ntmps32
  by_cases h8 : b.length < 8
  · have HE1 := Lib.hid (show prsF b = frz by rw [prsF, if_pos h8])
    have HE2 := Lib.hid (show rstF b = [] by rw [rstF, if_pos h8])
    have HE3 := Lib.hid (show prsG b = 3 by rw [prsG, if_pos h8])
    go_wp2_with fail
    exact bodyPost_ret (res3 rfl rfl (run_loadVar_row _ _ _ 42 (fra frz) _ _ hg0 Tryz.underlying42 rfl (by kernel_rfl))) rfl ⟨.slice none 0 0, by rw [HE1.out, HE3.out]; rfl, by rw [HE2.out]; exact Made.nil _ _ hOR.b⟩
  · have h8' : ¬ (b.length : Int) < 8 := by omega
    have HE1 := Lib.hid (show prsF b = rawF b by rw [prsF, if_neg h8])
    have HE2 := Lib.hid (show rstF b = b.drop 8 by rw [rstF, if_neg h8])
    have HE3 := Lib.hid (show prsG b = 0 by rw [prsG, if_neg h8])
    obtain ⟨D, hD⟩ : ∃ D, D = b.drop 8 := ⟨_, rfl⟩
    have HDl := Lib.hid (show D.length = b.length - 8 by rw [hD]; simp)
    have G0 := Lib.hid (get_one (b := b) (i := 0) (by omega))
    have G2 := Lib.hid (get_two (b := b) (i := 2) (by omega))
    have G4 := Lib.hid (get_four (b := b) (i := 4) (by omega))
    obtain ⟨F, hF⟩ : ∃ F, F = n2 b 2 := ⟨_, rfl⟩
    have hFb := n2_bd b 2
    rw [← hF] at hFb G2
    have HA := Lib.hid (show #[Value.int .i64 (byt b 0), .int .i64 (F / 8 * 8), .int .i64 (n4 b 4), .bool (decide (F % 2 = 1))] = fra (rawF b) by rw [hF]; rfl)
    have HM := Lib.hid (show bits .and .i64 F 1 = F % 2 from by have := and_mask 1 F (by omega) (by omega) (by omega); simpa using this)
    have HN := Lib.hid (show ((F % 2) != 0) = decide (F % 2 = 1) from by rw [Bool.eq_iff_iff]; simp; omega)
    have HD := Lib.hid hD
    clear hD hF h8
    have hOR' : OwnR w 42 4 (w.alloc (.cells #[.int .i64 0, .int .i64 0, .int .i64 0, .bool false] 42)) := hOR
    go_upto_region 4 with (go_at_call 31; refine (get6_any A b c B 2 2 _ (hR.below (hOR'.b.mono hB)).rd (by omega) hR.cap).mono ?_; rintro e w' ⟨rfl, rfl⟩; rw [show getV b 2 2 = F from G2.out])
    generalize w.alloc (.cells #[.int .i64 0, .int .i64 0, .int .i64 0, .bool false] 42) = W at *
    have HX := Lib.hid (show Int.tmod F 8 = F % 8 from Int.tmod_eq_emod_of_nonneg hFb.1)
    have HY := Lib.hid (show IntKind.i64.wrap (F - F % 8) = F / 8 * 8 from by rw [IntWalk.i64_in _ (by omega)]; omega)
    refine wp_region_held_drew (S := OwnR w 42 4) (by kernel_rfl) hOR'.drew (fun hS => ?_)
    refine held_pure (i := 0) (oi := ⟨some 12, _, _, _, _, _⟩) rfl (by kernel_rfl) (by kernel_rfl) (by kernel_rfl) (fun _ _ _ h => h) (by rfl) (v := ?_) (fun w hSw => ?_) hS (fun hS => ?_)
    rotate_left
    · go_simp; try with_reducible rfl
    try go_frame
    refine held_pure (i := 2) (oi := ⟨some 14, _, _, _, _, _⟩) rfl (by kernel_rfl) (by kernel_rfl) (by kernel_rfl) (fun _ _ _ h => h) (by rfl) (v := ?_) (fun w hSw => ?_) hS (fun hS => ?_)
    rotate_left
    · go_simp; try with_reducible rfl
    try go_frame
    refine held_pure (i := 3) (oi := ⟨some 15, _, _, _, _, _⟩) rfl (by kernel_rfl) (by kernel_rfl) (by kernel_rfl) (fun _ _ _ h => h) (by rfl) (v := ?_) (fun w hSw => ?_) hS (fun hS => ?_)
    rotate_left
    · go_simp; try with_reducible rfl
    try go_frame
    refine held_pure (i := 4) (oi := ⟨some 16, _, _, _, _, _⟩) rfl (by kernel_rfl) (by kernel_rfl) (by kernel_rfl) (fun _ _ _ h => h) (by rfl) (v := ?_) (fun w hSw => ?_) hS (fun hS => ?_)
    rotate_left
    · go_simp; try with_reducible rfl
    try go_frame
    refine held_pure (i := 5) (oi := ⟨some 17, _, _, _, _, _⟩) rfl (by kernel_rfl) (by kernel_rfl) (by kernel_rfl) (fun _ _ _ h => h) (by rfl) (v := .int .i64 (F / 8 * 8)) (fun w hSw => by go_simp; rw [HX.out]; exact HY.out) hS (fun hS => ?_)
    try go_frame
    refine held_pure (i := 6) (oi := ⟨some 18, _, _, _, _, _⟩) rfl (by kernel_rfl) (by kernel_rfl) (by kernel_rfl) (fun _ _ _ h => h) (by rfl) (v := ?_) (fun w hSw => ?_) hS (fun hS => ?_)
    rotate_left
    · go_simp; try with_reducible rfl
    try go_frame
    refine held_pure (i := 8) (oi := ⟨some 20, _, _, _, _, _⟩) rfl (by kernel_rfl) (by kernel_rfl) (by kernel_rfl) (fun _ _ _ h => h) (by rfl) (v := ?_) (fun w hSw => ?_) hS (fun hS => ?_)
    rotate_left
    · go_simp; try with_reducible rfl
    try go_frame
    refine held_pure (i := 9) (oi := ⟨some 21, _, _, _, _, _⟩) rfl (by kernel_rfl) (by kernel_rfl) (by kernel_rfl) (fun _ _ _ h => h) (by rfl) (v := .int .i64 (F % 2)) (fun w hSw => by go_simp; exact HM.out) hS (fun hS => ?_)
    try go_frame
    refine held_pure (i := 10) (oi := ⟨some 22, _, _, _, _, _⟩) rfl (by kernel_rfl) (by kernel_rfl) (by kernel_rfl) (fun _ _ _ h => h) (by rfl) (v := .bool (decide (F % 2 = 1))) (fun w hSw => by go_simp; exact HN.out) hS (fun hS => ?_)
    try go_frame
    refine held_pure (i := 12) (oi := ⟨some 24, _, _, _, _, _⟩) rfl (by kernel_rfl) (by kernel_rfl) (by kernel_rfl) (fun _ _ _ h => h) (by rfl) (v := ?_) (fun w hSw => ?_) hS (fun hS => ?_)
    rotate_left
    · go_simp; try with_reducible rfl
    try go_frame
    refine held_pure (i := 13) (oi := ⟨some 25, _, _, _, _, _⟩) rfl (by kernel_rfl) (by kernel_rfl) (by kernel_rfl) (fun _ _ _ h => h) (by rfl) (fun w hSw => run_cut_l rfl rfl (l := 8) rfl (by omega) HDl.out) hS (fun hS => ?_)
    try go_frame
    refine wpAnyH_ready (rs := [1]) (by kernel_rfl) (by simp) (AllReadyH.cons (o := ⟨some 13, _, _, _, _, _⟩) rfl (fun K hK => ?_) AllReadyH.nil)
    rw [if_pos (by rfl)]
    go_simp
    refine (get6_any A b c B 0 1 _ (hR.below (hS.b.mono hB)).rd (by omega) hR.cap).mono ?_
    rintro e w1 ⟨rfl, rfl⟩
    rw [show getV b 0 1 = byt b 0 from G0.out]
    show K _ _
    refine hK.out _ _ hS (fun hS => ?_)
    clear hK K
    try go_frame
    refine wpAnyH_ready (rs := [7]) (by kernel_rfl) (by simp) (AllReadyH.cons (o := ⟨some 19, _, _, _, _, _⟩) rfl (fun K hK => ?_) AllReadyH.nil)
    rw [if_pos (by rfl)]
    go_simp
    refine (get6_any A b c B 4 4 _ (hR.below (hS.b.mono hB)).rd (by omega) hR.cap).mono ?_
    rintro e w7 ⟨rfl, rfl⟩
    rw [show getV b 4 4 = n4 b 4 from G4.out]
    show K _ _
    refine hK.out _ _ hS (fun hS => ?_)
    clear hK K
    try go_frame
    refine held_pure (i := 11) (oi := ⟨some 23, _, _, _, _, _⟩) rfl (by kernel_rfl) (by kernel_rfl) (by kernel_rfl) (fun _ _ _ h => h) (by rfl) (v := .agg (fra (rawF b))) (fun w hSw => by go_simp; exact HA.out) hS (fun hS => ?_)
    try go_frame
    refine wpAnyH_ready (rs := [14]) (by kernel_rfl) (by simp) (AllReadyH.cons (o := ⟨some 26, _, _, _, _, _⟩) rfl (fun K hK => ?_) AllReadyH.nil)
    rw [if_pos (by rfl)]
    go_simp
    have y14 := hS
    refine (fresh_any _ D _ B _ (by rw [HD.out]; exact (hR.below (hS.b.mono hB)).cut_lo 8) (by rw [HDl.out]; omega)).mono ?_
    rintro e w14 ⟨v14, rfl, m14⟩
    show K _ _
    refine hK.out _ _ (hS.step m14.below) (fun hS => ?_)
    clear hK K
    try go_frame
    refine wpAnyH_ready (rs := [15]) (by kernel_rfl) (by simp) (AllReadyH.cons (o := ⟨none, _, _, _, _, _⟩) rfl (fun K hK => ?_) AllReadyH.nil)
    rw [if_pos (by rfl)]
    obtain ⟨old, ho4, hgo⟩ := hS.2
    refine wp_store_row 42 _ _ rfl w.heap.size (fra (rawF b)) rfl rfl 42 old hgo (by kernel_rfl) ho4 (by simp [fra, Value.oneCell']) ?_
    have hgz := setRow_heap _ _ _ (fra (rawF b)) _ _ hgo
    refine hK.out _ _ (hS.row _ rfl) (fun hS => ?_)
    clear hK K
    try go_frame
    refine held_pure (i := 16) (oi := ⟨some 3, _, _, _, _, _⟩) rfl (by kernel_rfl) (by kernel_rfl) (by kernel_rfl) (fun _ _ _ h => h) (by rfl) (v := ?_) (fun w hSw => ?_) hS (fun hS => ?_)
    rotate_left
    · go_simp; try with_reducible rfl
    try go_frame
    refine held_pure (i := 17) (oi := ⟨some 4, _, _, _, _, _⟩) rfl (by kernel_rfl) (by kernel_rfl) (by kernel_rfl) (fun _ _ _ h => h) (by rfl) (v := ?_) (fun w hSw => ?_) hS (fun hS => ?_)
    rotate_left
    · go_simp; try with_reducible rfl
    try go_frame
    refine wpAnyH_done (by kernel_rfl) ?_ _
    go_wp2_with fail
    exact bodyPost_ret (res3 rfl rfl (run_loadVar_row _ _ _ 42 _ _ _ hgz Tryz.underlying42 rfl (by kernel_rfl))) rfl ⟨v14, by rw [HE1.out, HE3.out]; rfl, by rw [HE2.out]; exact (show Made w _ v14 (b.drop 8) from HD.out ▸ m14.row y14.b y14.lt)⟩
end Go.Proofs.YtpoigngpdcmipaaGreat
namespace Go.Proofs.YtpoigngpdcmipaaGreat
open Go.RowKit Go.Shelf
def ok6 (q : P6) : Prop := q.src.length = 16 ∧ q.dst.length = 16
structure X6 where
  q : P6
  A : Option Addr
  c : Nat
  h6 : ok6 q
def cl6 (x : X6) : List Value := v6l x.q x.A x.c
theorem cl6_len {x : X6} (h : ok6 x.q) : (cl6 x).length = 37 := v6l_len h.1 h.2
theorem cl6_one (x : X6) : ∀ u ∈ cl6 x, u.oneCell' = true := fun u hu => by
  have h := Array.all_eq_true_iff_forall_mem.1 (v6a_one x.q x.A x.c) u (by simpa [v6a, cl6] using hu)
  exact h
theorem v6v_eq (q : P6) (A : Option Addr) (c : Nat) : v6v q A c = .agg (v6a q A c) := rfl
theorem v6a_size {q : P6} {A : Option Addr} {c : Nat} (h : ok6 q) : (v6a q A c).size = 37 := by rw [v6a, List.size_toArray]; exact v6l_len h.1 h.2
theorem at6_of {W : World} {g : Nat} {q : P6} {A : Option Addr} {c : Nat} (h : W.heap[g]? = some (.cells (v6a q A c) 38 (0, 0))) : At6 W g q A c := At6.of_heap h rfl
def Own6 (W : World) (base : Nat) (x : X6) : Prop := ok6 x.q ∧ W.ownsRow base 5 1 (.slice x.A x.q.dat.length x.c) x.q.dat.length (row x.q.dat)
section
variable {W V : World} {base : Nat} {x : X6}
theorem Own6.below (h : Own6 W base x) (hb : Below W.heap.size W V) : Own6 V base x := ⟨h.1, own_below h.2 hb⟩
theorem Own6.base_ {base' : Nat} (h : Own6 W base' x) (hb : base ≤ base') : Own6 W base x := ⟨h.1, own_base h.2 hb⟩
theorem Own6.arg (h : Own6 W base x) : Arg W W.heap.size x.A x.c x.q.dat := arg_own h.2
theorem Own6.keep {e t sz : Nat} (h : Own6 W base x) (k : KeepS e t sz W V) (h1 : 5 ≠ t) (h2 : 5 ≠ e) : Own6 V base x := ⟨h.1, k.own h.2 h1 h2⟩
theorem Own6.loop {l : Nat} {r r' : Loop} (h : Own6 W base x) (hl : W.heap[l]? = some (.loop r)) : Own6 (W.putObj l (.loop r')) base x := ⟨h.1, ownsRow_putObj h.2 _ hl rfl⟩
theorem Own6.turn {r : Option Nat} (h : Own6 W base x) (hg : W.grownBy V r) (hr : ∀ k, r = some k → ∃ o : Obj, W.heap[k]? = some o ∧ o.isCells = false) : Own6 V base x := by
  refine ⟨h.1, h.2.kept hg ?_⟩
  rcases h.2.2 with ⟨e, _⟩ | ⟨g, cap, cur, e, _, hgb, _⟩
  · exact .inl (by rw [e]; rfl)
  · refine .inr fun e' => ?_
    rw [e] at e'
    obtain ⟨o, ho, hc⟩ := hr g (by simpa [Value.ownBlock] using e'.symm)
    rw [hgb] at ho; cases ho; cases hc
end
theorem concat_pair (A : Option Addr) (a b : List UInt8) (c B : Nat) (R : List UInt8) (hR : Hid (R = a ++ b)) (w : World) (h : Rd2 w B A [a, b]) (hB : B ≤ w.heap.size) (h0 : 0 < a.length) (hl : a.length + b.length ≤ 1000000) :
    Calls Tryz.prog 98 #[.slice A 2 c] w fun e w' => ∃ v, e = .returned v ∧ Made w w' v R := by
  have h1 := concat_any A [a, b] c B w h hB (by rw [bulk2]; omega) (by rw [bulk2]; omega) (by simp) (by simp)
  have e : [a, b].flatten = R := by rw [hR.out]; simp
  rw [e] at h1
  exact h1
theorem load_frag {o : Oper} {a : Act} {w : World} {x : Operand} {g : Nat} {f : F6} (ho : o.op = .load 42 x) (hx : a.eval x = .pointer (some ⟨g, 0, none⟩)) (hr : AtF w g f) :
    (execOp a.eval o).run Tryz.prog w = .ok (.value (frv f)) w := by
  have h := run_loadVar_mid (P := Tryz.prog) w g 0 42 (fra f).toList _ hr Tryz.underlying42 rfl (by kernel_rfl)
  unfold execOp
  simp only [ho, hx, Instr.loadAt, Instr.sureAddr, Sem.run_bind, Sem.run_pure, Result.andThen_ok, h]
  rfl
theorem atF_of {W : World} {g : Nat} {f : F6} (h : W.heap[g]? = some (.cells (fra f) 42 (0, 0))) : AtF W g f := fun j v hj => by
  rw [Nat.zero_add, cell_of_row _ _ _ _ _ _ h, ← Array.getElem?_toList]; exact hj
theorem v6_result {fn : Func} {p : Tmp} {tmps : Array Value} {w : World} {g : Nat} {t : TypeId} {cs : Array Value} {fr : Nat × Nat} (h : fn.results = #[.cell p 38])
    (hp : tmps.getD p undef = .pointer (some ⟨g, 0, none⟩)) (hg : w.heap[g]? = some (.cells cs t fr)) (hl : cs.size = 37) : (results fn tmps).run Tryz.prog w = .ok (.agg cs) w :=
  results_cell_row h tmps w g t cs fr _ hp hg Tryz.underlying38 rfl (by rw [hl]; kernel_rfl)
theorem set_next (q : P6) (A : Option Addr) (c : Nat) (n : Int) : (v6a q A c).setIfInBounds 2 (.int .i64 n) = v6a { q with next := n } A c := by
  rw [v6a, v6a, List.setIfInBounds_toArray]; rfl
set_option maxRecDepth 100000 in
set_option maxHeartbeats 1000000 in
theorem c14fragment (q : P6) (A : Option Addr) (c : Nat) (f : F6) (D : Option Addr) (d : Nat) (dat : List UInt8) (n : Nat) (w : World) (B : Nat) (hn : Hid (dat.length = n)) (h6 : ok6 q) (hk : okF f) (hD : Arg w B D d dat) (hB0 : B ≤ w.heap.size) (hl : n ≤ 900000) :
    Calls Tryz.prog 69 #[v6v q A c, frv f, .slice D n d] w fun e w' => ∃ P p, e = .returned (v6v { q with next := 44, dat := bldF f ++ dat } P p) ∧ Own6 w' w.heap.size ⟨{ q with next := 44, dat := bldF f ++ dat }, P, p, h6⟩ ∧ Below w.heap.size w w' := by
  have hte : 38 ≠ 5 := nat_ne (by kernel_rfl)
  have hB : Below w.heap.size w (((w.alloc (.cells (v6a q A c) 38)).alloc (.cells (fra f) 42)).alloc (.cells #[.int .i64 0, .int .i64 0, .int .i64 0, .int .i64 0, .int .u8 0, .int .u8 0, .int .u8 0, .int .u8 0, .int .u8 0, .int .u8 0, .int .u8 0, .int .u8 0, .int .u8 0, .int .u8 0, .int .u8 0, .int .u8 0, .int .u8 0, .int .u8 0, .int .u8 0, .int .u8 0, .int .u8 0, .int .u8 0, .int .u8 0, .int .u8 0, .int .u8 0, .int .u8 0, .int .u8 0, .int .u8 0, .int .u8 0, .int .u8 0, .int .u8 0, .int .u8 0, .int .u8 0, .int .u8 0, .int .u8 0, .int .u8 0, .slice none 0 0] 38)) := (((Below.refl w.heap.size w).alloc (Nat.le_refl _) _).alloc (by simp) _).alloc (by simp; omega) _
  have s1 : (w.alloc (.cells (v6a q A c) 38)).heap.size = w.heap.size + 1 := by simp
  have s2 : ((w.alloc (.cells (v6a q A c) 38)).alloc (.cells (fra f) 42)).heap.size = w.heap.size + 2 := by simp
  have hU0 : (((w.alloc (.cells (v6a q A c) 38)).alloc (.cells (fra f) 42)).alloc (.cells #[.int .i64 0, .int .i64 0, .int .i64 0, .int .i64 0, .int .u8 0, .int .u8 0, .int .u8 0, .int .u8 0, .int .u8 0, .int .u8 0, .int .u8 0, .int .u8 0, .int .u8 0, .int .u8 0, .int .u8 0, .int .u8 0, .int .u8 0, .int .u8 0, .int .u8 0, .int .u8 0, .int .u8 0, .int .u8 0, .int .u8 0, .int .u8 0, .int .u8 0, .int .u8 0, .int .u8 0, .int .u8 0, .int .u8 0, .int .u8 0, .int .u8 0, .int .u8 0, .int .u8 0, .int .u8 0, .int .u8 0, .int .u8 0, .slice none 0 0] 38)).heap[w.heap.size]? = some (.cells (v6a q A c) 38 (0, 0)) :=
    (Below.heap_alloc ((w.alloc (.cells (v6a q A c) 38)).alloc (.cells (fra f) 42)) _ w.heap.size (by omega)).trans ((Below.heap_alloc (w.alloc (.cells (v6a q A c) 38)) _ w.heap.size (by omega)).trans (World.alloc_heap_new w _))
  have hF0 : (((w.alloc (.cells (v6a q A c) 38)).alloc (.cells (fra f) 42)).alloc (.cells #[.int .i64 0, .int .i64 0, .int .i64 0, .int .i64 0, .int .u8 0, .int .u8 0, .int .u8 0, .int .u8 0, .int .u8 0, .int .u8 0, .int .u8 0, .int .u8 0, .int .u8 0, .int .u8 0, .int .u8 0, .int .u8 0, .int .u8 0, .int .u8 0, .int .u8 0, .int .u8 0, .int .u8 0, .int .u8 0, .int .u8 0, .int .u8 0, .int .u8 0, .int .u8 0, .int .u8 0, .int .u8 0, .int .u8 0, .int .u8 0, .int .u8 0, .int .u8 0, .int .u8 0, .int .u8 0, .int .u8 0, .int .u8 0, .slice none 0 0] 38)).heap[w.heap.size + 1]? = some (.cells (fra f) 42 (0, 0)) := by
    have := World.alloc_heap_new (w.alloc (.cells (v6a q A c) 38)) (.cells (fra f) 42)
    rw [s1] at this
    exact (Below.heap_alloc ((w.alloc (.cells (v6a q A c) 38)).alloc (.cells (fra f) 42)) _ (w.heap.size + 1) (by omega)).trans this
  have hR0 : ∃ old : Array Value, old.size = 37 ∧ (((w.alloc (.cells (v6a q A c) 38)).alloc (.cells (fra f) 42)).alloc (.cells #[.int .i64 0, .int .i64 0, .int .i64 0, .int .i64 0, .int .u8 0, .int .u8 0, .int .u8 0, .int .u8 0, .int .u8 0, .int .u8 0, .int .u8 0, .int .u8 0, .int .u8 0, .int .u8 0, .int .u8 0, .int .u8 0, .int .u8 0, .int .u8 0, .int .u8 0, .int .u8 0, .int .u8 0, .int .u8 0, .int .u8 0, .int .u8 0, .int .u8 0, .int .u8 0, .int .u8 0, .int .u8 0, .int .u8 0, .int .u8 0, .int .u8 0, .int .u8 0, .int .u8 0, .int .u8 0, .int .u8 0, .int .u8 0, .slice none 0 0] 38)).heap[w.heap.size + 2]? = some (.cells old 38 (0, 0)) := by
    have := World.alloc_heap_new ((w.alloc (.cells (v6a q A c) 38)).alloc (.cells (fra f) 42)) (.cells #[.int .i64 0, .int .i64 0, .int .i64 0, .int .i64 0, .int .u8 0, .int .u8 0, .int .u8 0, .int .u8 0, .int .u8 0, .int .u8 0, .int .u8 0, .int .u8 0, .int .u8 0, .int .u8 0, .int .u8 0, .int .u8 0, .int .u8 0, .int .u8 0, .int .u8 0, .int .u8 0, .int .u8 0, .int .u8 0, .int .u8 0, .int .u8 0, .int .u8 0, .int .u8 0, .int .u8 0, .int .u8 0, .int .u8 0, .int .u8 0, .int .u8 0, .int .u8 0, .int .u8 0, .int .u8 0, .int .u8 0, .int .u8 0, .slice none 0 0] 38)
    rw [s2] at this
    exact ⟨_, rfl, this⟩
  rw [v6v_eq]
  unfold frv
  rw [show #[Value.int .i64 f.next, .int .i64 f.off, .int .i64 f.id, .bool f.more] = fra f from rfl]
  go_enter Tryz.func69, Tryz.ntmps69
  go_upto_region 1 with fail
  clear s1 s2
  generalize ((w.alloc (.cells (v6a q A c) 38)).alloc (.cells (fra f) 42)).alloc (.cells #[.int .i64 0, .int .i64 0, .int .i64 0, .int .i64 0, .int .u8 0, .int .u8 0, .int .u8 0, .int .u8 0, .int .u8 0, .int .u8 0, .int .u8 0, .int .u8 0, .int .u8 0, .int .u8 0, .int .u8 0, .int .u8 0, .int .u8 0, .int .u8 0, .int .u8 0, .int .u8 0, .int .u8 0, .int .u8 0, .int .u8 0, .int .u8 0, .int .u8 0, .int .u8 0, .int .u8 0, .int .u8 0, .int .u8 0, .int .u8 0, .int .u8 0, .int .u8 0, .int .u8 0, .int .u8 0, .int .u8 0, .int .u8 0, .slice none 0 0] 38) = W at *
  obtain ⟨old, ho, hR0⟩ := hR0
  have hWz : w.heap.size + 2 < W.heap.size := heap_lt hR0
  have hAF := atF_of hF0
  have h8 : (bldF f).length = 8 := bldF_eight hk
  have hD1 := hD.below (hB.mono hB0)
  obtain ⟨H8, hH8⟩ : ∃ H, H = bldF f := ⟨_, rfl⟩
  obtain ⟨R, hR⟩ : ∃ R, R = H8 ++ dat := ⟨_, rfl⟩
  have HR := Lib.hid hR
  have HH := Lib.hid hH8.symm
  rw [← hH8] at h8
  have H8l := Lib.hid h8
  have hRl : Hid (R.length = 8 + n) := Lib.hid (by rw [hR, List.length_append, h8, hn.out])
  clear hR hH8 h8
  go_upto_region 2 with (first
    | ((with_reducible show wpList _ _ _ (Oper.mk _ (Op.load 42 _) _ _ _ _ :: _) _ _); refine wpList_val rfl (load_frag rfl rfl hAF) ?_)
    | (go_at_call 97; refine (c6bfrag f W).mono ?_; rintro e V2 ⟨v2, rfl, m2⟩; rw [HH.out] at m2; obtain ⟨P2, p2, rfl, g2, o2, y2⟩ := made_shape m2))
  have hz2 := y2.size
  have hD2 := hD1.below (y2.mono (by omega))
  have hU2 := (y2.block w.heap.size (by omega)).trans hU0
  have hR2 := (y2.block (w.heap.size + 2) hWz).trans hR0
  have hB2 := hB.trans (y2.mono (by omega))
  have hBz : B ≤ V2.heap.size := by omega
  clear hU0 hR0 hF0 hAF o2 m2 y2 hD1 hB
  go_upto_region 3 with (go_at_call 98; refine (concat_pair (some ⟨V2.heap.size, 0, none⟩) H8 dat 2 (V2.heap.size + 1) R HR _ (Rd2.two rfl hn.out.symm (World.alloc_heap_new V2 _) (Nat.lt_succ_self _) ((g2.alloc (Nat.le_refl _) _).more (Nat.le_succ _)) ((hD2.alloc hBz _).more (by omega))) (by simp) (by rw [H8l.out]; decide) (by rw [H8l.out, hn.out]; omega)).mono ?_; rintro e w4 ⟨v4, rfl, m4⟩; obtain ⟨P4, p4, rfl, g4, o4, y4⟩ := made_shape m4; have x4 : Below V2.heap.size V2 w4 := ((Below.refl _ V2).alloc (Nat.le_refl _) _).trans (y4.mono (by simp)); have hU4 := (x4.block w.heap.size (by omega)).trans hU2; have c2 := (at6_of hU4).next; have f2 := heap_frozen hU4 2; have c36 := (at6_of hU4).dat h6.1 h6.2; have f36 := heap_frozen hU4 36)
  have hR4 := (x4.block (w.heap.size + 2) (by omega)).trans hR2
  have hz4 := x4.size
  have o4' := own_base (base := w.heap.size) o4 (by simp; omega)
  have hU5 := heap_setCell_same w4 w.heap.size 2 _ _ (.int .i64 44) hU4
  rw [set_next] at hU5
  have hU6 := heap_setCell_same _ w.heap.size 36 _ _ (.slice P4 R.length p4) hU5
  rw [set_dat { q with next := 44 } A P4 c p4 R h6.1 h6.2] at hU6
  have hR6 := (heap_setCell_other (w4.setCell ⟨w.heap.size, 2, none⟩ (.int .i64 44)) ⟨w.heap.size, 36, none⟩ (w.heap.size + 2) (.slice P4 R.length p4) (by show w.heap.size + 2 ≠ w.heap.size; omega)).trans ((heap_setCell_other w4 ⟨w.heap.size, 2, none⟩ (w.heap.size + 2) (.int .i64 44) (by show w.heap.size + 2 ≠ w.heap.size; omega)).trans hR4)
  have o6 := own_setCellB (i := 36) (u := .slice P4 R.length p4) (own_setCellB (i := 2) (u := .int .i64 44) o4' hU4 hte) hU5 hte
  have hB6 := ((hB2.trans (x4.mono (by omega))).setCell (p := ⟨w.heap.size, 2, none⟩) (Nat.le_refl _) (.int .i64 44)).setCell (p := ⟨w.heap.size, 36, none⟩) (Nat.le_refl _) (.slice P4 R.length p4)
  clear hU4 hU5 hR4 c2 c36 f2 f36 o4 o4' hB2 g4 m4 y4 x4
  generalize (w4.setCell ⟨w.heap.size, 2, none⟩ (.int .i64 44)).setCell ⟨w.heap.size, 36, none⟩ (.slice P4 R.length p4) = V6 at *
  have hq6 : ok6 ({ q with next := 44, dat := R } : P6) := h6
  have hU7 : V6.heap[w.heap.size]? = some (.cells (v6a { q with next := 44, dat := R } P4 p4) 38 (0, 0)) := hU6
  have at6 := at6_of hU7
  go_wp2_with (first
    | ((with_reducible show wpList _ _ _ (Oper.mk _ (Op.load 38 _) _ _ _ _ :: _) _ _); refine wpList_val rfl (run_load_v6 rfl rfl at6 (v6l_len hq6.1 hq6.2)) ?_)
    | ((with_reducible show wpList _ _ _ (Oper.mk _ (Op.store 38 _ _) _ _ _ _ :: _) _ _); refine v6_store (g := w.heap.size + 2) (cs := v6a { q with next := 44, dat := R } P4 p4) rfl rfl hR6 ho (v6a_size hq6) (v6a_one _ _ _) ?_))
  have o7 := own_setRowB (cs' := v6a { q with next := 44, dat := R } P4 p4) o6 hR6 hte
  rw [show bldF f ++ dat = R by rw [HR.out, HH.out]]
  exact bodyPost_ret (v6_result rfl rfl (setRow_heap _ _ _ _ _ _ hR6) (v6a_size hq6)) rfl ⟨P4, p4, rfl, ⟨hq6, o7⟩, below_row hB6 (by omega)⟩
end Go.Proofs.YtpoigngpdcmipaaGreat
