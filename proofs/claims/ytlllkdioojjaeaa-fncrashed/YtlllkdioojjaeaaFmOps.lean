/-
 What lookups, appends, deletions and settings make of a map of rows of bytes.
-/
import Derived.Test.YtlllkdioojjaeaaAppB
import Derived.Test.YtlllkdioojjaeaaMath2
import Derived.Maps.OwnOps
namespace Go.Proofs.Ytlllkdioojjaeaa
open Go.RowKit Go.Maps
set_option linter.unusedVariables false
theorem lawF:Keyed Try.prog 9:=string_keyed Try.underlying9
theorem zeroF (w:World):(zeroValue 57).run Try.prog w=.ok (.slice none 0 0) w:=by kernel_rfl
theorem infoBy:(Try.prog.info? 5).map (fun i=>(i.zero,i.size,i.bytes))=some (some (.int .u8 0),1,1):=by kernel_rfl
theorem keyF (k:List UInt8) (hk:k.length≤16777216):keyOf Try.prog 9 (.string ⟨k.toArray⟩)=some (.string k):=by
 have:=WideMaps.keyOf_string_mk (P:=Try.prog) Try.underlying9 (s:=⟨k.toArray⟩) (by simp[ByteArray.size,maxLen];omega)
 simpa using this
def rowOf (L:List PairL) (S:List UInt8→Value) (k:List UInt8):Value:=if inK k L=true then S k else .slice none 0 0
theorem FMap.row {w:World} {base mb n:Nat} {L:List PairL} {D:DataW Value} {S} (h:FMap w base mb n L D S) (k:List UInt8):RowB w base (rowOf L S k) (datF L k):=by
 unfold rowOf
 by_cases hi:inK k L=true
 · rw[if_pos hi]
   obtain⟨u,hu⟩:=(inK_iff k L).1 hi
   rw[(at_in h.rise hu).2]
   exact h.rows _ hu
 · rw[if_neg hi,(at_out (fun v hv=>hi ((inK_iff k L).2 ⟨v,hv⟩))).2]
   exact .inl ⟨rfl,rfl⟩
theorem FMap.atRow {w:World} {base mb n:Nat} {L:List PairL} {D:DataW Value} {S} (h:FMap w base mb n L D S) (k:List UInt8):D.atKey (.string k) (.held (.slice none 0 0))=.held (rowOf L S k):=by
 unfold rowOf
 by_cases hi:inK k L=true
 · rw[if_pos hi]
   obtain⟨u,hu⟩:=(inK_iff k L).1 hi
   exact h.fd.at_ _ hu _
 · rw[if_neg hi]
   exact atKey_of_not_has (by rw[h.fd.hasIn];simpa using hi) _
theorem FMap.apartK {w:World} {base mb n:Nat} {L:List PairL} {D:DataW Value} {S} (h:FMap w base mb n L D S) (k:List UInt8):∀ p∈L,p.1≠k→∀ g,(S p.1).ownBlock=some g→(rowOf L S k).ownBlock≠some g:=by
 intro p hp hk g hg
 unfold rowOf
 by_cases hi:inK k L=true
 · rw[if_pos hi]
   obtain⟨u,hu⟩:=(inK_iff k L).1 hi
   exact h.apart p hp _ hu hk g hg
 · rw[if_neg hi];simp[Value.ownBlock]
theorem FMap.offK {w:World} {base mb n:Nat} {L:List PairL} {D:DataW Value} {S} (h:FMap w base mb n L D S) (k:List UInt8):(rowOf L S k).ownBlock≠some mb:=by
 unfold rowOf
 by_cases hi:inK k L=true
 · rw[if_pos hi]
   obtain⟨u,hu⟩:=(inK_iff k L).1 hi
   exact h.off _ hu
 · rw[if_neg hi];simp[Value.ownBlock]
theorem FMap.look {w:World} {base mb n:Nat} {L:List PairL} {D:DataW Value} {S} (h:FMap w base mb n L D S) (k:List UInt8) (hk:k.length≤16777216):(Instr.lookup 75 (.map (some mb)) (.string ⟨k.toArray⟩) false).run Try.prog w=.ok (rowOf L S k) w:=by
 obtain⟨v,ps,hr,hR⟩:=h.own.lookup (t:=75) (e:=57) lawF Try.underlying75 (zeroF w) (zd:=.held (.slice none 0 0)) (zp:=[]) rfl (keyF k hk)
 rw[h.atRow k] at hR
 rw[←fvR_inv hR];exact hr
theorem FMap.lookOk {w:World} {base mb n:Nat} {L:List PairL} {D:DataW Value} {S} (h:FMap w base mb n L D S) (k:List UInt8) (hk:k.length≤16777216):(Instr.lookup 75 (.map (some mb)) (.string ⟨k.toArray⟩) true).run Try.prog w=.ok (.tuple #[rowOf L S k,.bool (inK k L)]) w:=by
 obtain⟨v,ps,hr,hR⟩:=h.own.look_ok (t:=75) (e:=57) lawF Try.underlying75 (zeroF w) (zd:=.held (.slice none 0 0)) (zp:=[]) rfl (keyF k hk)
 rw[h.atRow k] at hR
 rw[←fvR_inv hR,←h.fd.hasIn k];exact hr
theorem inK_at {L:List PairL} {k:List UInt8} (hr:Rise L):inK k L=decide (0≤atF L k):=by
 by_cases hi:inK k L=true
 · obtain⟨u,hu⟩:=(inK_iff k L).1 hi
   rw[hi,decide_eq_true (at_in hr hu).1]
 · have:=(at_out (fun v hv=>hi ((inK_iff k L).2 ⟨v,hv⟩))).1
   rw[this]
   simpa using hi
theorem FMap.app {W:World} {base mb n:Nat} {L:List PairL} {D:DataW Value} {S} (h:FMap W base mb n L D S) (k d:List UInt8) (hk:k.length≤16777216) (hd:(datF L k).length+d.length≤1099511627776) (hn:n<1048576) (hb:base≤W.heap.size) :
 ∃ v' w4 w5 D' S', (∀ ty, (Builtin.append_ #[57, 9] ty #[rowOf L S k, .string ⟨d.toArray⟩]).run Try.prog W = .ok v' w4) ∧ (Instr.mapUpdate 75 (.map (some mb)) (.string ⟨k.toArray⟩) v').run Try.prog w4 = .ok () w5 ∧
   FMap w5 base mb (n+1) (putL L k (datF L k ++ d)) D' S'∧Below base W w5∧(∀ c,c<W.heap.size→c≠mb→(∀ p∈L,(S p.1).ownBlock≠some c)→w4.heap[c]? = W.heap[c]?∧w5.heap[c]? = W.heap[c]?):=by
 obtain⟨i0,hi0,hz0,hz1,hz2⟩:=info_parts infoBy
 obtain⟨v',w4,hrun,hR4,hg4,hv4⟩:=run_append_b (P:=Try.prog) W base 57 9 5 i0 Try.underlying57 Try.underlying9 hi0 hz0 hz1 hz2 (rowOf L S k) (datF L k) d (h.row k) hd hb
 have ho4:=h.own.kept hg4 (fun e=>h.offK k e.symm)
 obtain⟨a',c',hsl⟩:=hR4.slice
 have hv:fvR v'=some (.held v',[]):=by rw[hsl];rfl
 obtain⟨w5,hrun5,ho5,hg5⟩:=ho4.update (t:=75) (e:=57) lawF Try.underlying75 (by unfold maxLen;omega) (keyF k hk) hv
 have hlt:=h.own.lt
 refine⟨v',w4,w5,_,_,hrun,hrun5,h.put k _ v' (rise_putF h.rise) (put_memF h.rise) (put_lenF h.rise) _ hg4 (fun p hp hpk g hg e=>h.apartK k p hp hpk g hg e.symm) hR4 (fun p hp hpk g hg e=>?_) (fun e=>?_) (n+1) hg5 ho5,⟨hg5.os.trans hg4.os,hg5.tape.trans hg4.tape,hg5.output.trans hg4.output,Nat.le_trans hg4.size hg5.size,fun c hc=>?_⟩,fun c hc hcm hcr=>?_⟩
 · rcases hv4 g e with e1 | e1
   · exact h.apartK k p hp hpk g hg e1
   · have:=((h.rows p hp).lt g hg).2
     omega
 · rcases hv4 mb e with e1 | e1
   · exact h.offK k e1
   · omega
 · have h1:w4.heap[c]? = W.heap[c]? := hg4.block c (by omega) (fun e=>by have:=((h.row k).lt c e.symm).1;omega)
   have h2:w5.heap[c]? = w4.heap[c]? := hg5.block c (by have:=hg4.size;omega) (fun e=>by have:=h.low;cases e;omega)
   exact h2.trans h1
 · have h1:w4.heap[c]? = W.heap[c]? := hg4.block c hc (fun e=>by
    unfold rowOf at e
    by_cases hi:inK k L=true
    · rw[if_pos hi] at e
      obtain⟨u,hu⟩:=(inK_iff k L).1 hi
      exact hcr _ hu e.symm
    · rw[if_neg hi] at e;simp[Value.ownBlock] at e)
   have h2:w5.heap[c]? = w4.heap[c]? := hg5.block c (by have:=hg4.size;omega) (fun e=>by cases e;exact hcm rfl)
   exact⟨h1,h2.trans h1⟩
theorem FMap.drop {W:World} {base mb n:Nat} {L:List PairL} {D:DataW Value} {S} (h:FMap W base mb n L D S) (k:List UInt8) (hk:k.length≤16777216) :
 ∃ w2,(∀ ty,(Builtin.delete_ #[75,9] ty #[.map (some mb),.string ⟨k.toArray⟩]).run Try.prog W=.ok (.tuple #[]) w2)∧FMap w2 base mb n (cutF L k) (D.del (.string k)) S∧W.grownBy w2 (some mb):=by
 obtain⟨w2,hrun,ho,ht⟩:=h.own.drop lawF Try.underlying75 (keyF k hk) 0
 exact⟨w2,fun ty=>hrun,h.del k (rise_cutF h.rise) (fun x=>cut_memF x) (cut_lenF h.rise) n ht.grown ho,ht.grown⟩
theorem below_mb {W w2:World} {base mb:Nat} (h:W.grownBy w2 (some mb)) (hl:base≤mb) (hb:base≤W.heap.size):Below base W w2 :=
 ⟨h.os,h.tape,h.output,h.size,fun c hc=>h.block c (by omega) (fun e=>by cases e;omega)⟩
theorem FMap.ren {W w2:World} {base mb n:Nat} {L:List PairL} {D:DataW Value} {S} (h:FMap W base mb n L D S) (k t v:List UInt8) (ht:t.length≤16777216) (hn:n<1048576) (hv:(k,v)∈L) (h2:FMap w2 base mb n (cutF L k) (D.del (.string k)) S) (hg2:W.grownBy w2 (some mb)) :
 ∃ w3 D' S',(Instr.mapUpdate 75 (.map (some mb)) (.string ⟨t.toArray⟩) (S k)).run Try.prog w2=.ok () w3∧FMap w3 base mb (n+1) (putL (cutF L k) t v) D' S'∧w2.grownBy w3 (some mb):=by
 have hrow:=h.rows _ hv
 have hr2:RowB w2 base (S k) v:=hrow.kept hg2 (fun g hg e=>by cases e;exact h.off _ hv hg)
 obtain⟨a',c',hsl⟩:=hr2.slice
 have hvv:fvR (S k)=some (.held (S k),[]):=by rw[hsl];rfl
 obtain⟨w3,hrun,ho,hg⟩:=h2.own.update (t:=75) (e:=57) lawF Try.underlying75 (by unfold maxLen;omega) (keyF t ht) hvv
 exact⟨w3,_,_,hrun,h2.put t v (S k) (rise_putF h2.rise) (put_memF h2.rise) (put_lenF h2.rise) none (World.grownBy.refl _ _) (fun _ _ _ _ _=>by simp) hr2 (fun p hp hpk g hg e=>h.apart p ((cut_memF p).1 hp).1 _ hv ((cut_memF p).1 hp).2 g hg e) (h.off _ hv) (n+1) hg ho,hg⟩
end Go.Proofs.Ytlllkdioojjaeaa
