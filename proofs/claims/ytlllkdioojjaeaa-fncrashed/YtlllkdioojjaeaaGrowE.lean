/-
 Laws of appends that tell the address; a row of files that may be appended to (written by mkg.py).
-/
import Derived.Test.YtlllkdioojjaeaaSActs
namespace Go.Proofs.Ytlllkdioojjaeaa
open Go.RowKit
set_option linter.unusedVariables false
def AddrS (a:Option Addr):Prop:=∃ b off,a=some ⟨b,off,none⟩
def AddrK (a:Option Addr) (k:Nat):Prop:=(a=none∧k=0)∨AddrS a
theorem AddrS.ok {a:Option Addr} (h:AddrS a):AddrOk a:=.inr h
theorem AddrK.ok {a:Option Addr} {k:Nat} (h:AddrK a k):AddrOk a:=h.imp (fun x=>x.1) id
theorem AddrK.cap {a:Option Addr} {k:Nat} (h:AddrK a k):a=none→k=0:=fun e=>by
 rcases h with h | ⟨b,off,h⟩
 · exact h.2
 · rw[e] at h;cases h
theorem addr_newK {a:Option Addr} {b off:Nat} (h:(∃ b off,a=some ⟨b,off,none⟩)∨a=some ⟨b,off,none⟩):AddrS a:=by
 rcases h with h | h
 · exact h
 · exact⟨_,_,h⟩
theorem own_addrK {w:World} {base e size n m c:Nat} {a:Option Addr} {xs:List Value} (h:w.ownsRow base e size (.slice a m c) n xs):AddrK a c:=by
 rcases h.2 with ⟨h',_⟩ | ⟨g,cap',cur,h',_⟩
 · cases h';exact .inl ⟨rfl,rfl⟩
 · cases h';exact .inr ⟨_,_,rfl⟩
def AddrL (a:Option Addr) (k n:Nat):Prop:=AddrK a k∧n≤k
theorem own_capK {w:World} {base e size g n cap:Nat} {xs:List Value} (h:w.ownsRow base e size (.slice (some ⟨g,0,none⟩) n cap) n xs):n≤cap:=by
 rcases h.2 with ⟨h',_⟩ | ⟨g',cap',cur,h',_,_,hc,_⟩
 · cases h'
 · cases h';exact hc
def FarQ (a:Option Addr) (xs:List Value) (q:Nat):Prop:=xs=[]∨∀ g off,a=some ⟨g,off,none⟩→g≠q
theorem NewR.far {W:World} {lo q:Nat} {a:Option Addr} {xs:List Value} (h:NewR W lo a xs) (hq:q<lo):FarQ a xs q:=by
 rcases h with h | ⟨g,h0,h1,_⟩
 · exact .inl h
 · refine .inr (fun g' off e=>?_)
   rw[h0] at e;cases e;omega
def LiveF (W:World) (base:Nat) (a:Option Addr) (n c:Nat) (xs:List Value) (x2:Option Addr) (ys:List Value) (x3:Option Addr) (zs:List Value):Prop:=∃ row,GrowR W base 84 2 a n c xs row∧∀ q,row=some q→FarQ x2 ys q∧FarQ x3 zs q
def OwnF (W:World) (lo hi:Nat) (a:Option Addr) (n c:Nat) (xs:List Value):Prop:=W.ownsRow lo 84 2 (.slice a n c) n xs∧∀ q,(Value.slice a n c).ownBlock=some q→q<hi
theorem OwnF.later {W W':World} {lo hi n c:Nat} {a:Option Addr} {xs:List Value} (h:OwnF W lo hi a n c xs) (hb:Below W.heap.size W W'):OwnF W' lo hi a n c xs:=⟨kept2 h.1 hb,h.2⟩
theorem OwnF.kept {W W':World} {lo hi n c:Nat} {a:Option Addr} {xs:List Value} {row:Option Nat} (h:OwnF W lo hi a n c xs) (hg:W.grownBy W' row) (hr:∀ g,lo≤g→g<hi→some g≠row):OwnF W' lo hi a n c xs:=by
 refine⟨h.1.kept hg ?_,h.2⟩
 cases hv:(Value.slice a n c).ownBlock with
 | none=>exact .inl rfl
 | some q=>exact .inr (hr q (h.1.lt q hv).1 (h.2 q hv))
theorem OwnF.setAt {W:World} {lo hi n c:Nat} {a:Option Addr} {xs:List Value} (h:OwnF W lo hi a n c xs) (p:Addr) (hp:p.block<lo∨hi≤p.block) (v:Value):OwnF (W.setCell p v) lo hi a n c xs:=by
 refine⟨ownsRow_setCell_other h.1 ?_ _,h.2⟩
 intro e
 have h1:=h.1.lt _ e
 have h2:=h.2 _ e
 omega
theorem step_append_newK {P:Program} {W:World} {ops:Array Oper} {o:Oper} {a:Act} {K:Act→World→Prop} {Q:Exit→Act→World→Prop} {E:Prop} (hgd:o.guard=none) (s x:Operand) (t:TypeId)
 (ho:o.op=.call { callee:=.builtin .append,args:=#[s,x],argTypes:=#[t,t] })
 (e:TypeId) (i:TypeInfo) (z:Value) (size bytes:Nat) (ht:P.underlying t=some (.slice e)) (hi:P.info? e=some i) (hz:i.zero=some z)
 (hsize:i.size=size) (hby:i.bytes=bytes) (hzs:z.cells.size=size) (hsz:0<size)
 (ad:Addr) (hs:a.eval s=.slice (some ad) 0 0)
 (a2:Option Addr) (m c:Nat) (xs:List Value) (hx:a.eval x=.slice a2 m c) (hl:xs.length=m*size) (hcs:m=0∨∃ ad2,a2=some ad2∧∀ j u,xs[j]? = some u→W.cell? (ad2.add j)=some u) (h1:∀ u∈xs,u.oneCell'=true)
 (h63:m≤1048576) (hbytes:bytes≤64)
 (h:∀ a' c' w',NewR w' W.heap.size a' xs→((∃ b off,a'=some ⟨b,off,none⟩)∨a'=some ad)→Below W.heap.size W w'→K (a.put o.dst (.slice a' m c')) w') :
 if Region.wanted o (yielded ops a.tmps)=true then Oper.wp P o a W K Q else E:=by
 rcases hcs with h0 | ⟨ad2,rfl,hcs⟩
 · subst h0
   have hxn:xs=[]:=List.length_eq_zero_iff.1 (by rw[hl];simp)
   subst hxn
   have hsrc:Src P i.size t (.slice a2 0 c) 0 [] W:=by
    cases a2 with
    | none=>exact Src.ofNil W ht c
    | some ad2=>exact Src.ofSlice W ht ad2 0 c [] (by simp) (by simp) (by simp)
   exact step_append_run hgd s x t t ho _ _ _ hs hx (fun ty=>run_append_nothing W t t ty e i ht hi (some ad) 0 0 (Nat.le_refl _) _ hsrc) (h (some ad) 0 W (.inl rfl) (.inr rfl) (Below.refl _ _))
 · by_cases h0:m=0
   · subst h0
     have hxn:xs=[]:=List.length_eq_zero_iff.1 (by rw[hl];simp)
     subst hxn
     exact step_append_run hgd s x t t ho _ _ _ hs hx (fun ty=>run_append_nothing W t t ty e i ht hi (some ad) 0 0 (Nat.le_refl _) _ (Src.ofSlice W ht ad2 0 c [] (by simp) (by simp) (by simp))) (h (some ad) 0 W (.inl rfl) (.inr rfl) (Below.refl _ _))
   · have hsrc:Src P i.size t (.slice (some ad2) m c) m xs W:=Src.ofSlice W ht ad2 m c xs (by rw[hsize];exact hl) hcs h1
     have hge:=grownCap_ge W (0+m) 0 e
     have hrun:=fun ty=>run_append_grow_src W t t ty e i z ht hi hz (some ad) 0 0 [] (run_firstCells_some W.drew i.size 0 ad 0 0 [] (by simp) (by simp)) (.slice (some ad2) m c) m xs hsrc (by omega) (by omega) (growslice_fits (by omega) (by rw[hby];have:=Nat.mul_le_mul (Nat.le_of_eq (Nat.zero_add m)) hbytes;omega))
     refine step_append_run hgd s x t t ho _ _ _ hs hx hrun ?_
     rw[Nat.zero_add]
     refine h _ _ _ (.inr ⟨W.heap.size,rfl,Nat.le_refl _,by simp,fun j hj=>?_⟩) (.inl ⟨_,_,rfl⟩) ⟨rfl,rfl,rfl,by simp,fun k hk=>heap_alloc_old W.drew _ hk⟩
     have hblk:=heap_alloc_new W.drew (.cells (([] ++ xs).toArray ++ Builtin.zeroCells z.cells (grownCap W m 0 e - m)) e)
     have e1:W.drew.heap.size=W.heap.size:=rfl
     rw[e1] at hblk
     rw[cell_of_row _ _ j _ _ _ hblk,Array.getElem?_append_left (by simpa using hj)]
     simp
theorem step_append_growK {P:Program} {W:World} {ops:Array Oper} {o:Oper} {a:Act} {K:Act→World→Prop} {Q:Exit→Act→World→Prop} {E:Prop} (hgd:o.guard=none) (s x:Operand) (t:TypeId)
 (ho:o.op=.call { callee:=.builtin .append,args:=#[s,x],argTypes:=#[t,t] })
 (e:TypeId) (i:TypeInfo) (z:Value) (size bytes:Nat) (ht:P.underlying t=some (.slice e)) (hi:P.info? e=some i) (hz:i.zero=some z)
 (hsize:i.size=size) (hby:i.bytes=bytes) (hzs:z.cells.size=size)
 (ad:Addr) (hs:a.eval s=.slice (some ad) 0 0)
 (a2:Option Addr) (m c:Nat) (xs:List Value) (hx:a.eval x=.slice a2 m c) (hl:xs.length=m*size) (hcs:m=0∨∃ ad2,a2=some ad2∧∀ j u,xs[j]? = some u→W.cell? (ad2.add j)=some u) (h1:∀ u∈xs,u.oneCell'=true)
 (h63:m≤1048576) (hbytes:bytes≤64)
 (h:∀ a' c' w' row,GrowR w' W.heap.size e size a' m c' xs row→((∃ b off,a'=some ⟨b,off,none⟩)∨a'=some ad)→Below W.heap.size W w'→K (a.put o.dst (.slice a' m c')) w') :
 if Region.wanted o (yielded ops a.tmps)=true then Oper.wp P o a W K Q else E:=by
 by_cases h0:m=0
 · subst h0
   have hxn:xs=[]:=List.length_eq_zero_iff.1 (by rw[hl];simp)
   subst hxn
   have hsrc:Src P i.size t (.slice a2 0 c) 0 [] W:=by
    cases a2 with
    | none=>exact Src.ofNil W ht c
    | some ad2=>exact Src.ofSlice W ht ad2 0 c [] (by simp) (by simp) (by simp)
   exact step_append_run hgd s x t t ho _ _ _ hs hx (fun ty=>run_append_nothing W t t ty e i ht hi (some ad) 0 0 (Nat.le_refl _) _ hsrc) (h (some ad) 0 W none (.inl ⟨ad,rfl,rfl,rfl,rfl,rfl⟩) (.inr rfl) (Below.refl _ _))
 · rcases hcs with hcs | ⟨ad2,rfl,hcs⟩
   · exact absurd hcs h0
   · obtain⟨c',w',hr,hown,hg⟩:=run_grow0 W t e i z size bytes ht hi hz hsize hby hzs ad ad2 m c xs hl hcs h1 (by omega) (by omega) hbytes
     exact step_append_run hgd s x t t ho _ _ _ hs hx hr (h _ c' w' _ (.inr ⟨hown,rfl⟩) (.inl ⟨_,_,rfl⟩) ⟨hg.os,hg.tape,hg.output,hg.size,fun k hk=>hg.block k hk (by simp)⟩)
end Go.Proofs.Ytlllkdioojjaeaa
