/-
  Contracts of the document's plain answers of layer 1: Word, Put, Set. Conditions are each theorem's own.
-/
import Derived.Test.YtcfcmnhnijjehaaLibA
import Derived.Test.YtcfcmnhnijjehaaBeC
import Derived.Deep.QuietTactic
import Derived.BigQuiet
namespace Go.Proofs.Ytcfcmnhnijjehaa
open Go.RowKit

theorem rword_any (A : Option Addr) (bs : List UInt8) (c B i : Nat) (w : World) (h : Rd w B A bs) (hi : i < bs.length) (hl : bs.length ≤ 1099511627776) :
    Calls Try.prog 82 #[.slice A bs.length c, .int .i64 (i : Int)] w
      fun e w' => e = .returned (.int .i64 (byt bs i * 256 + byt bs (i + 1))) ∧ ∃ n, w' = w.drewN n := by
  obtain ⟨b, off, rfl, _, hc⟩ := h (by omega)
  have h0 := hc i hi
  have l0 := byt_lo bs i
  have u0 := byt_hi bs i
  by_cases h2 : i + 1 < bs.length
  · have h1 := hc (i + 1) h2
    have l1 := byt_lo bs (i + 1)
    have u1 := byt_hi bs (i + 1)
    rw [← Nat.add_assoc] at h1
    clear hc h
    generalize byt bs i = x at *
    generalize byt bs (i + 1) = y at *
    go_enter Try.func82, Try.ntmps82
    go_wp2
    have s1 : IntKind.i64.wrap ((i : Int) + 1) = (i : Int) + 1 := IntWalk.i64_in _ (by omega)
    have s2 : (0 : Int) ≤ (i : Int) + 1 := by omega
    have s3 : ((i : Int) + 1).toNat = i + 1 := by omega
    have s4 : IntKind.i64.wrap (x * 256) = x * 256 := IntWalk.i64_in _ (by omega)
    have s5 : IntKind.i64.wrap (x * 256 + y) = x * 256 + y := IntWalk.i64_in _ (by omega)
    have h1' : w.cell? ⟨b, off + (i + 1), none⟩ = some (.int .u8 y) := by rw [← Nat.add_assoc]; exact h1
    go_quiet (fail)
    clear s1 s2 s3 s4 s5
    go_wp2
    go_ret
    exact ⟨rfl, nq, rfl⟩
  · have e : byt bs (i + 1) = 0 := byt_beyond (by omega)
    rw [e]
    clear hc h e
    generalize byt bs i = x at *
    go_enter Try.func82, Try.ntmps82
    go_wp2
    go_ret
    exact ⟨ret_int (by omega), 0, rfl⟩

theorem Rd.one {W : World} {v : Int} {x : UInt8} (t : TypeId) (h : v = (x.toNat : Int)) : Rd (W.alloc (.cells #[.int .u8 v] t)) (W.heap.size + 1) (some ⟨W.heap.size, 0, none⟩) [x] :=
  Rd.of_block (g := W.heap.size) (World.alloc_heap_new W _) (Nat.lt_succ_self _) 0 (fun j hj => by
    have : j = 0 := by simpa using hj
    subst this; simp [h, byt])

theorem dig_wrap {n : Int} (h : 0 ≤ n) (s i : Nat) : n / pw (s - 1 - i) % 256 = ((dig n s i).toNat : Int) := (dig_val h s i).symm

set_option maxHeartbeats 1000000 in
theorem rput_any (A : Option Addr) (bs : List UInt8) (c B : Nat) (n s : Int) (w : World) (h : Arg w B A c bs) (hl : bs.length ≤ 1099511627000) :
    Calls Try.prog 64 #[.slice A bs.length c, .int .i64 n, .int .i64 s] w fun e w' => ∃ v, e = .returned v ∧ Made w w' v (putB bs n s) := by
  have hr := h.rd
  have hn := h.none_
  by_cases hf : fitsB n s = true
  · have hf' := fitsB_iff.1 hf
    obtain ⟨k, rfl⟩ := Int.eq_ofNat_of_zero_le (show 0 ≤ s by omega)
    rw [show putB bs n k = bs ++ digs n k from by simp [putB, hf]]
    have h0 : 0 ≤ n := hf'.2.2.1
    have hnu : n < pw k := by simpa using hf'.2.2.2
    have hpl := pw_le (k := k) (by omega)
    go_enter Try.func64, Try.ntmps64
    go_wp2_with (first
      | (go_at_call 55; refine (rfits_any _ _ _).mono ?_; rintro e w' ⟨rfl, rfl⟩)
      | (at_builtin; refine append_rd rfl _ _ rfl w.heap.size _ _ _ rfl (World.ownsRow_nil _ _ _ _) B A c bs rfl hn hr (by omega) (Nat.le_refl _) ?_; intro v1 w1 hown hgrow))
    have hb1 : Below w.heap.size w w1 := (Below.refl _ w).grown hgrow (Nat.le_refl _) (fun k hk => by cases (show (none : Option Nat) = some k from hk))
    simp only [List.nil_append, Nat.zero_add] at hown
    clear hr hn h hf
    go_loopw [7, 8] (fun v i wr => ∃ (j : Nat) (q : Int), j ≤ k ∧ i = .int .i64 q ∧ Hid (q = (k : Int) - 1 - (j : Int)) ∧ q ≤ 3 ∧ -1 ≤ q ∧ Below w.heap.size w wr ∧
        wr.ownsRow w.heap.size 5 1 v (bs.length + j) (row (bs ++ (List.range j).map (dig n k)))) (fun _ i _ => (intOf i + 1).toNat)
    case atStart => exact ⟨0, _, Nat.zero_le _, rfl, Lib.hid (by omega), by omega, by omega, hb1, by simpa using hown⟩
    case round =>
      obtain ⟨j, q, hj, rfl, Hq, hq3, hq1, hb, hown2⟩ := hrel
      by_cases hq : 0 ≤ q
      · obtain ⟨m, rfl⟩ := Int.eq_ofNat_of_zero_le hq
        have p1 := pw_pos m
        have hE : Hid (n / pw m % 256 = ((dig n k j).toNat : Int)) := by
          have := Hq.out
          rw [show m = k - 1 - j from by omega]; exact Lib.hid (dig_wrap h0 k j)
        have hsz := hb.size
        have hd0 : 0 ≤ n / pw m := Int.ediv_nonneg h0 (by omega)
        go_wp2_with (first
          | (go_at_call 77; refine (pow_any _ _ (by omega)).mono ?_; rintro e w' ⟨rfl, rfl⟩)
          | (at_builtin; go_loud (refine append_rd rfl _ _ rfl w.heap.size _ _ _ rfl (hown2.alloc _) (wr.heap.size + 1) (some ⟨wr.heap.size, 0, none⟩) 1 [dig n k j] rfl (by simp) (Rd.one 5 hE.out) (by simp; omega) (by simp; omega) ?_); intro v3 w3 hown3 hgrow3))
        go_roundw
        case rel =>
          refine ⟨j + 1, _, by have := Hq.out; omega, rfl, Lib.hid (by have := Hq.out; omega), by omega, by omega, (hb.alloc hsz _).grown hgrow3 (Nat.le_trans hsz (by simp)) (fun k hk => own_block_ge hown2 k hk), ?_⟩
          have e : row (bs ++ List.map (dig n k) (List.range (j + 1))) = row (bs ++ List.map (dig n k) (List.range j)) ++ row [dig n k j] := by
            rw [← row_append, List.append_assoc, List.range_succ, List.map_append, List.map_singleton]
          rw [e]; exact hown3
        case measure => simp [intOf]
      · go_wp2
        go_ret
        have hjk : j = k := by have := Hq.out; omega
        subst hjk
        exact ⟨_, rfl, Made.of_own (by rw [List.length_append, digs_length]; exact hown2) hb⟩
  · have hf0 : fitsB n s = false := by simpa using hf
    rw [show putB bs n s = bs from by simp [putB, hf0]]
    go_enter Try.func64, Try.ntmps64
    go_wp2_with (first
      | (go_at_call 55; refine (rfits_any _ _ _).mono ?_; rintro e w' ⟨rfl, rfl⟩)
      | (at_builtin; refine append_rd rfl _ _ rfl w.heap.size _ _ _ rfl (World.ownsRow_nil _ _ _ _) B A c bs rfl hn hr (by omega) (Nat.le_refl _) ?_; intro v1 w1 hown hgrow))
    go_ret
    have hb1 : Below w.heap.size w w1 := (Below.refl _ w).grown hgrow (Nat.le_refl _) (fun k hk => by cases (show (none : Option Nat) = some k from hk))
    exact ⟨_, rfl, Made.of_own (by simpa using hown) hb1⟩

end Go.Proofs.Ytcfcmnhnijjehaa
