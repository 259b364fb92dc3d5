/-
  Contract of the document's Same of layer 6. Conditions are each theorem's own.
-/
import Derived.Test.YtcfcmnhnijjehaaV6F
namespace Go.Proofs.Ytcfcmnhnijjehaa
open Go.RowKit

set_option maxRecDepth 100000 in
set_option maxHeartbeats 4000000 in
theorem r6same (q r : P6) (A : Option Addr) (c : Nat) (X : Option Addr) (d B : Nat) (w : World) (hs : q.src.length = 16) (hd : q.dst.length = 16) (hs2 : r.src.length = 16) (hd2 : r.dst.length = 16) (hB : B ≤ w.heap.size) (hQ : Rd w B A q.dat) (hR : Rd w B X r.dat) :
    Calls Try.prog 40 #[v6v q A c, v6v r X d] w fun e w' => e = .returned (.bool (same6 q r)) ∧ Below w.heap.size w w' := by
  have hBl : ∀ o1 o2, Below w.heap.size w ((w.alloc o1).alloc o2) := fun o1 o2 => ((Below.refl w.heap.size w).alloc (Nat.le_refl _) o1).alloc (by simp) o2
  have at1 : At6 ((w.alloc (.cells (v6a q A c) 44)).alloc (.cells (v6a r X d) 44)) w.heap.size q A c := (At6.new w).below ((Below.refl (w.heap.size + 1) _).alloc (by simp) _) (by omega)
  have at2 : At6 ((w.alloc (.cells (v6a q A c) 44)).alloc (.cells (v6a r X d) 44)) (w.heap.size + 1) r X d := by
    have := At6.new (q := r) (A := X) (c := d) (w.alloc (.cells (v6a q A c) 44))
    rwa [show (w.alloc (.cells (v6a q A c) 44)).heap.size = w.heap.size + 1 from by simp] at this
  have hBW := hBl (.cells (v6a q A c) 44) (.cells (v6a r X d) 44)
  have hz : w.heap.size + 1 < ((w.alloc (.cells (v6a q A c) 44)).alloc (.cells (v6a r X d) 44)).heap.size := by simp
  clear hBl
  have HS : Hid (same6 q r = ((q.traffic == r.traffic) && (q.flow == r.flow) && (q.next == r.next) && (q.hop == r.hop) && decide (q.src = r.src) && decide (q.dst = r.dst) && decide (q.dat = r.dat))) := Lib.hid rfl
  unfold v6v
  rw [show (v6l q A c).toArray = v6a q A c from rfl, show (v6l r X d).toArray = v6a r X d from rfl]
  go_enter Try.func40, Try.ntmps40
  go_upto_region 1 with fail
  generalize (w.alloc (.cells (v6a q A c) 44)).alloc (.cells (v6a r X d) 44) = W at *
  have c2 := conv_any A q.dat c B W (hQ.below (hBW.mono hB))
  have c4 := conv_any X r.dat d B W (hR.below (hBW.mono hB))
  have x0 := at1.traffic; have x1 := at1.flow; have x2 := at1.next; have x3 := at1.hop; have x6 := at1.dat hs hd
  have y0 := at2.traffic; have y1 := at2.flow; have y2 := at2.next; have y3 := at2.hop; have y6 := at2.dat hs2 hd2
  obtain ⟨S, hS0⟩ : ∃ S, S = decide (q.src = r.src) := ⟨_, rfl⟩
  obtain ⟨D, hD0⟩ : ∃ D, D = decide (q.dst = r.dst) := ⟨_, rfl⟩
  have eS : ∀ w, (Op.equalIn 10000 42 (.agg (cel q.src)) (.agg (cel r.src))).run Try.prog w = .ok S w := fun w => by rw [hS0]; exact six_eq _ _ hs hs2 w
  have eD : ∀ w, (Op.equalIn 10000 42 (.agg (cel q.dst)) (.agg (cel r.dst))).run Try.prog w = .ok D w := fun w => by rw [hD0]; exact six_eq _ _ hd hd2 w
  rw [← hS0, ← hD0] at HS
  clear hS0 hD0 hQ hR
  have q2 := strB_eq q.dat r.dat
  cases e0 : (q.traffic == r.traffic)
  · skip
    go_wp2_with (first
      | ((with_reducible show wpList _ _ _ (Oper.mk (some 33) (Op.load _ _) _ _ _ _ :: _) _ _); refine wpList_valg (by rfl) (run_load_six rfl rfl at1.src hs) ?_)
      | ((with_reducible show wpList _ _ _ (Oper.mk (some 35) (Op.load _ _) _ _ _ _ :: _) _ _); refine wpList_valg (by rfl) (run_load_six rfl rfl at2.src hs2) ?_)
      | ((with_reducible show wpList _ _ _ (Oper.mk (some 40) (Op.load _ _) _ _ _ _ :: _) _ _); refine wpList_valg (by rfl) (run_load_six rfl rfl (at1.dst hs) hd) ?_)
      | ((with_reducible show wpList _ _ _ (Oper.mk (some 42) (Op.load _ _) _ _ _ _ :: _) _ _); refine wpList_valg (by rfl) (run_load_six rfl rfl (at2.dst hs2) hd2) ?_))
    go_ret
    exact ⟨ret_bool (by rw [HS.out, e0]; rfl), hBW⟩
  · skip
    cases e1 : (q.flow == r.flow)
    · skip
      go_wp2_with (first
        | ((with_reducible show wpList _ _ _ (Oper.mk (some 33) (Op.load _ _) _ _ _ _ :: _) _ _); refine wpList_valg (by rfl) (run_load_six rfl rfl at1.src hs) ?_)
        | ((with_reducible show wpList _ _ _ (Oper.mk (some 35) (Op.load _ _) _ _ _ _ :: _) _ _); refine wpList_valg (by rfl) (run_load_six rfl rfl at2.src hs2) ?_)
        | ((with_reducible show wpList _ _ _ (Oper.mk (some 40) (Op.load _ _) _ _ _ _ :: _) _ _); refine wpList_valg (by rfl) (run_load_six rfl rfl (at1.dst hs) hd) ?_)
        | ((with_reducible show wpList _ _ _ (Oper.mk (some 42) (Op.load _ _) _ _ _ _ :: _) _ _); refine wpList_valg (by rfl) (run_load_six rfl rfl (at2.dst hs2) hd2) ?_))
      go_ret
      exact ⟨ret_bool (by rw [HS.out, e0, e1]; rfl), hBW⟩
    · skip
      cases e2 : (q.next == r.next)
      · skip
        go_wp2_with (first
          | ((with_reducible show wpList _ _ _ (Oper.mk (some 33) (Op.load _ _) _ _ _ _ :: _) _ _); refine wpList_valg (by rfl) (run_load_six rfl rfl at1.src hs) ?_)
          | ((with_reducible show wpList _ _ _ (Oper.mk (some 35) (Op.load _ _) _ _ _ _ :: _) _ _); refine wpList_valg (by rfl) (run_load_six rfl rfl at2.src hs2) ?_)
          | ((with_reducible show wpList _ _ _ (Oper.mk (some 40) (Op.load _ _) _ _ _ _ :: _) _ _); refine wpList_valg (by rfl) (run_load_six rfl rfl (at1.dst hs) hd) ?_)
          | ((with_reducible show wpList _ _ _ (Oper.mk (some 42) (Op.load _ _) _ _ _ _ :: _) _ _); refine wpList_valg (by rfl) (run_load_six rfl rfl (at2.dst hs2) hd2) ?_))
        go_ret
        exact ⟨ret_bool (by rw [HS.out, e0, e1, e2]; rfl), hBW⟩
      · skip
        cases e3 : (q.hop == r.hop)
        · skip
          go_wp2_with (first
            | ((with_reducible show wpList _ _ _ (Oper.mk (some 33) (Op.load _ _) _ _ _ _ :: _) _ _); refine wpList_valg (by rfl) (run_load_six rfl rfl at1.src hs) ?_)
            | ((with_reducible show wpList _ _ _ (Oper.mk (some 35) (Op.load _ _) _ _ _ _ :: _) _ _); refine wpList_valg (by rfl) (run_load_six rfl rfl at2.src hs2) ?_)
            | ((with_reducible show wpList _ _ _ (Oper.mk (some 40) (Op.load _ _) _ _ _ _ :: _) _ _); refine wpList_valg (by rfl) (run_load_six rfl rfl (at1.dst hs) hd) ?_)
            | ((with_reducible show wpList _ _ _ (Oper.mk (some 42) (Op.load _ _) _ _ _ _ :: _) _ _); refine wpList_valg (by rfl) (run_load_six rfl rfl (at2.dst hs2) hd2) ?_))
          go_ret
          exact ⟨ret_bool (by rw [HS.out, e0, e1, e2, e3]; rfl), hBW⟩
        · skip
          cases S
          · skip
            go_wp2_with (first
              | ((with_reducible show wpList _ _ _ (Oper.mk (some 33) (Op.load _ _) _ _ _ _ :: _) _ _); refine wpList_valg (by rfl) (run_load_six rfl rfl at1.src hs) ?_)
              | ((with_reducible show wpList _ _ _ (Oper.mk (some 35) (Op.load _ _) _ _ _ _ :: _) _ _); refine wpList_valg (by rfl) (run_load_six rfl rfl at2.src hs2) ?_)
              | ((with_reducible show wpList _ _ _ (Oper.mk (some 40) (Op.load _ _) _ _ _ _ :: _) _ _); refine wpList_valg (by rfl) (run_load_six rfl rfl (at1.dst hs) hd) ?_)
              | ((with_reducible show wpList _ _ _ (Oper.mk (some 42) (Op.load _ _) _ _ _ _ :: _) _ _); refine wpList_valg (by rfl) (run_load_six rfl rfl (at2.dst hs2) hd2) ?_))
            go_ret
            exact ⟨ret_bool (by rw [HS.out, e0, e1, e2, e3]; rfl), hBW⟩
          · skip
            cases D
            · skip
              go_wp2_with (first
                | ((with_reducible show wpList _ _ _ (Oper.mk (some 33) (Op.load _ _) _ _ _ _ :: _) _ _); refine wpList_valg (by rfl) (run_load_six rfl rfl at1.src hs) ?_)
                | ((with_reducible show wpList _ _ _ (Oper.mk (some 35) (Op.load _ _) _ _ _ _ :: _) _ _); refine wpList_valg (by rfl) (run_load_six rfl rfl at2.src hs2) ?_)
                | ((with_reducible show wpList _ _ _ (Oper.mk (some 40) (Op.load _ _) _ _ _ _ :: _) _ _); refine wpList_valg (by rfl) (run_load_six rfl rfl (at1.dst hs) hd) ?_)
                | ((with_reducible show wpList _ _ _ (Oper.mk (some 42) (Op.load _ _) _ _ _ _ :: _) _ _); refine wpList_valg (by rfl) (run_load_six rfl rfl (at2.dst hs2) hd2) ?_))
              go_ret
              exact ⟨ret_bool (by rw [HS.out, e0, e1, e2, e3]; rfl), hBW⟩
            · skip
              cases e6 : decide (q.dat = r.dat)
              · skip
                rw [e6] at q2
                go_wp2_with (first
                  | ((with_reducible show wpList _ _ _ (Oper.mk (some 33) (Op.load _ _) _ _ _ _ :: _) _ _); refine wpList_valg (by rfl) (run_load_six rfl rfl at1.src hs) ?_)
                  | ((with_reducible show wpList _ _ _ (Oper.mk (some 35) (Op.load _ _) _ _ _ _ :: _) _ _); refine wpList_valg (by rfl) (run_load_six rfl rfl at2.src hs2) ?_)
                  | ((with_reducible show wpList _ _ _ (Oper.mk (some 40) (Op.load _ _) _ _ _ _ :: _) _ _); refine wpList_valg (by rfl) (run_load_six rfl rfl (at1.dst hs) hd) ?_)
                  | ((with_reducible show wpList _ _ _ (Oper.mk (some 42) (Op.load _ _) _ _ _ _ :: _) _ _); refine wpList_valg (by rfl) (run_load_six rfl rfl (at2.dst hs2) hd2) ?_))
                go_ret
                exact ⟨ret_bool (by rw [HS.out, e0, e1, e2, e3, e6]; rfl), hBW⟩
              · skip
                rw [e6] at q2
                go_wp2_with (first
                  | ((with_reducible show wpList _ _ _ (Oper.mk (some 33) (Op.load _ _) _ _ _ _ :: _) _ _); refine wpList_valg (by rfl) (run_load_six rfl rfl at1.src hs) ?_)
                  | ((with_reducible show wpList _ _ _ (Oper.mk (some 35) (Op.load _ _) _ _ _ _ :: _) _ _); refine wpList_valg (by rfl) (run_load_six rfl rfl at2.src hs2) ?_)
                  | ((with_reducible show wpList _ _ _ (Oper.mk (some 40) (Op.load _ _) _ _ _ _ :: _) _ _); refine wpList_valg (by rfl) (run_load_six rfl rfl (at1.dst hs) hd) ?_)
                  | ((with_reducible show wpList _ _ _ (Oper.mk (some 42) (Op.load _ _) _ _ _ _ :: _) _ _); refine wpList_valg (by rfl) (run_load_six rfl rfl (at2.dst hs2) hd2) ?_))
                go_ret
                exact ⟨ret_bool (by rw [HS.out, e0, e1, e2, e3, e6]; rfl), hBW⟩
end Go.Proofs.Ytcfcmnhnijjehaa
