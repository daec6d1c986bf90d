/-
 Contract: what an op does to no files (a nil list), of the model.
-/
import Derived.Test.YtlllkdioojjaeaaSSame
namespace Go.Proofs.Ytlllkdioojjaeaa
open Go.RowKit
set_option linter.unusedVariables false
set_option maxRecDepth 100000 in
set_option maxHeartbeats 2000000 in
theorem spec_do0 (cp:Nat) (k:Int) (n t d:List UInt8) (w:World) (hn:n.length≤16777216) (ht:t.length≤16777216) (hd:d.length≤8388608) :
 Calls Try.prog 42 #[.slice none 0 cp,.agg #[.int .i64 k,.string ⟨n.toArray⟩,.string ⟨t.toArray⟩,.string ⟨d.toArray⟩]] w fun e w'=>∃ (a:Option Addr) (m c:Nat),e=.returned (.tuple #[.slice a m c,.bool (doF [] ⟨k,n,t,d⟩).2])∧w'.ownsRow w.heap.size 84 2 (.slice a m c) (doF [] ⟨k,n,t,d⟩).1.length (pcells (doF [] ⟨k,n,t,d⟩).1)∧Below w.heap.size w w':=by
 have B0:Below w.heap.size w (w.alloc (.cells #[.int .i64 k,.string ⟨n.toArray⟩,.string ⟨t.toArray⟩,.string ⟨d.toArray⟩] 40)):=(Below.refl _ _).alloc (Nat.le_refl _) _
 have H0:Hid ((w.alloc (.cells #[.int .i64 k,.string ⟨n.toArray⟩,.string ⟨t.toArray⟩,.string ⟨d.toArray⟩] 40)).heap[w.heap.size]? = some (.cells #[.int .i64 k,.string ⟨n.toArray⟩,.string ⟨t.toArray⟩,.string ⟨d.toArray⟩] 40 (0,0))):=heap_alloc_new w _
 obtain⟨p0,p1,p2,p3,_⟩:=four_cells H0.out
 have KA:Calls Try.prog 64 #[.slice none 0 cp,.string ⟨n.toArray⟩] (w.alloc (.cells #[.int .i64 k,.string ⟨n.toArray⟩,.string ⟨t.toArray⟩,.string ⟨d.toArray⟩] 40)) _:=spec_at none cp [] n (w.alloc (.cells #[.int .i64 k,.string ⟨n.toArray⟩,.string ⟨t.toArray⟩,.string ⟨d.toArray⟩] 40)) (by simp) (.inl rfl)
 have HPUT:Hid (∀ (x v:List UInt8) W,x.length≤16777216→v.length≤16777216→Calls Try.prog 76 #[.slice none 0 cp,.string ⟨x.toArray⟩,.string ⟨v.toArray⟩] W _):=fun x v W h3 h4=>spec_put none cp [] x v W (by simp) (fun p hp=>by simp at hp) h3 h4 (.inl rfl)
 have e0:atF [] n = -1:=rfl
 rw[e0] at KA
 by_cases hk1:k=1
 · subst hk1
   have HZ:Hid (doF [] ⟨1,n,t,d⟩=(putL [] n d,true)):=by rw[Hid,doF,if_pos rfl,datF,e0,if_neg (by omega),List.nil_append]
   obtain⟨R,hR⟩:∃ R,R=doF [] ⟨1,n,t,d⟩:=⟨_,rfl⟩
   rw[←hR] at HZ ⊢
   clear hR e0
   go_enter Try.func42,Try.ntmps42
   go_wp2_with fail
   refine KA.mono ?_
   rintro e w1 ⟨rfl,b1⟩
   have B1:=B0.trans (b1.mono B0.size)
   obtain⟨q0,q1,q2,q3,_⟩:=four_cells ((b1.block _ (lt_of_block H0.out)).trans H0.out)
   clear p0 p1 p2 p3 KA b1
   have KP:=HPUT.out n d w1 hn (by omega)
   go_wp2_with fail
   refine KP.mono ?_
   rintro e w2 ⟨g,c,rfl,_,o2,b2⟩
   have B2:=B1.trans (b2.mono B1.size)
   have O2:=hidOwn (o2.mono (base':=w.heap.size) B1.size)
   clear o2 b2
   go_wp2
   go_ret2
   rw[HZ.out]
   exact⟨_,_,_,rfl,O2.out,B2⟩
 · have hk1b:(k == 1)=false:=by rw[beq_eq_false_iff_ne];exact hk1
   have HZ:Hid (doF [] ⟨k,n,t,d⟩=([],false)):=by rw[Hid,doF,if_neg hk1,e0,if_pos (by omega)]
   obtain⟨R,hR⟩:∃ R,R=doF [] ⟨k,n,t,d⟩:=⟨_,rfl⟩
   rw[←hR] at HZ ⊢
   clear hR e0
   go_enter Try.func42,Try.ntmps42
   go_wp2_with fail
   refine KA.mono ?_
   rintro e w1 ⟨rfl,b1⟩
   have B1:=B0.trans (b1.mono B0.size)
   have H1:Hid (w1.heap[w.heap.size]? = some (.cells #[.int .i64 k,.string ⟨n.toArray⟩,.string ⟨t.toArray⟩,.string ⟨d.toArray⟩] 40 (0,0))):=(b1.block _ (lt_of_block H0.out)).trans H0.out
   obtain⟨q0,q1,q2,q3,_⟩:=four_cells H1.out
   clear p0 p1 p2 p3 KA b1
   go_wp2
   go_ret2
   rw[HZ.out]
   exact⟨_,_,_,rfl,World.ownsRow_lit (e:=84) (size:=2) w1 #[] 0 (base:=w.heap.size) B1.size (Nat.zero_le _) rfl,B1.alloc B1.size _⟩
end Go.Proofs.Ytlllkdioojjaeaa
