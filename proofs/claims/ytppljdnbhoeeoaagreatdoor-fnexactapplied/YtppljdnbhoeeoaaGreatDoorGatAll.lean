/-
 Texts that are laid as one: Step, SStep, Way, MathGat, GatM.
-/
import Derived.Test.YtppljdnbhoeeoaaGreatDoorGetAll
import Derived.Test.YtppljdnbhoeeoaaGreatDoorSMades
import Derived.Test.YtppljdnbhoeeoaaGreatDoorTrieAll
namespace Go.Proofs.YtppljdnbhoeeoaaGreatDoor
open Go.RowKit
set_option linter.unusedVariables false
set_option maxHeartbeats 1000000
set_option maxRecDepth 100000
theorem za56 (n:Nat) (l:List UInt8) (h:zq l=true):zq (l.drop n)=true:=by
 simp only[zq,List.all_eq_true] at h ⊢
 exact fun x hx=>h x (List.mem_of_mem_drop hx)
def zjf (w0 w:World) (o:Option (List UInt8)) (e:Ending) (w':World):Prop:=(match o with
 | none=>e=.returned (.tuple #[.agg #[.string ⟨#[]⟩,.int .i64 0,.string ⟨#[]⟩,.slice none 0 0,.string ⟨#[]⟩],.bool false])
 | some t=>∃ (a:Option Addr) (c:Nat),e=.returned (.tuple #[.agg #[.string ⟨t.toArray⟩,.int .i64 (nodeAt t).k,.string ⟨(nodeAt t).p.toArray⟩,.slice a (nodeAt t).ls.length c,.string ⟨(nodeAt t).v.toArray⟩],.bool true])∧zt w0 a (nodeAt t).ls∧(za1 t).isSome=true)∧Below w.heap.size w w'
theorem zup (mb : Nat) (ps : List za) (h : List UInt8) (w0 w : World) (hst : zaa ps = true) (hhl : h.length ≤ 1048576) (hM : HeldM w0 mb ps ps.length) (hB : Below w0.heap.size w0 w) :
 Calls Tryz.prog 102 #[.map (some mb),.string ⟨h.toArray⟩] w fun e w'=>zjf w0 w (zm ps h) e w':=by
 by_cases h32:h.length=32
 · have fin : ∀ (D : DataW Value) (u0 : ByteArray) (u1 : Int) (u2 : ByteArray) (u3 : Option Addr) (m3 c3 : Nat) (u4 : ByteArray) (ok : Bool), w.ownsMap Tryz.prog 161 uvR mb ps.length D → Maps.has D (zaw h) = ok → (D.atKey (zaw h) (.held (.agg #[.string ⟨#[]⟩, .int .i64 0, .string ⟨#[]⟩, .slice none 0 0, .string ⟨#[]⟩])) = .held (.agg #[.string u0, .int .i64 u1, .string u2, .slice u3 m3 c3, .string u4])) →
    Calls Tryz.prog 102 #[.map (some mb),.string ⟨h.toArray⟩] w fun e w'=>e=.returned (.tuple #[.agg #[.string u0,.int .i64 u1,.string u2,.slice u3 m3 c3,.string u4],.bool ok])∧Below w.heap.size w w':=by
    intro D u0 u1 u2 u3 m3 c3 u4 ok hown h1 h2
    have K:=zlr h (w.alloc (.cells #[.string ⟨#[]⟩,.int .i64 0,.string ⟨#[]⟩,.slice none 0 0,.string ⟨#[]⟩] 159)) h32
    have B0:Hid (Below w.heap.size w (w.alloc (.cells #[.string ⟨#[]⟩,.int .i64 0,.string ⟨#[]⟩,.slice none 0 0,.string ⟨#[]⟩] 159))):=(Below.refl _ _).alloc (Nat.le_refl _) _
    have Q0:Hid ((w.alloc (.cells #[.string ⟨#[]⟩,.int .i64 0,.string ⟨#[]⟩,.slice none 0 0,.string ⟨#[]⟩] 159)).heap[w.heap.size]? = some (.cells #[.string ⟨#[]⟩,.int .i64 0,.string ⟨#[]⟩,.slice none 0 0,.string ⟨#[]⟩] 159 (0,0))):=heap_alloc_new w _
    have L0:Hid (w.heap.size<(w.alloc (.cells #[.string ⟨#[]⟩,.int .i64 0,.string ⟨#[]⟩,.slice none 0 0,.string ⟨#[]⟩] 159)).heap.size):=by rw[Hid];simp
    have H1:Hid _:=h1
    have H2:Hid _:=h2
    have HO:Hid (∀ W,Below w.heap.size w W→W.ownsMap Tryz.prog 161 uvR mb ps.length D):=fun W hW=>hown.kept (zbw hW none) (by simp)
    have HK:Hid _:=zim h h32
    obtain⟨cs,hcs⟩:∃ cs,cs=(ze h).toArray:=⟨_,rfl⟩
    rw[←hcs] at K HK
    clear h1 h2 hown hst hcs hM hB
    go_enter Tryz.func102,Tryz.ntmps102
    go_wp2_with fail
    refine K.mono ?_
    rintro e w1 ⟨rfl,b1⟩
    have B1:Hid _:=B0.out.trans (b1.mono B0.out.size)
    have M1:Hid (w1.ownsMap Tryz.prog 161 uvR mb ps.length D):=HO.out _ B1.out
    have Q1:Hid (w1.heap[w.heap.size]? = some (.cells #[.string ⟨#[]⟩,.int .i64 0,.string ⟨#[]⟩,.slice none 0 0,.string ⟨#[]⟩] 159 (0,0))):=(b1.block _ L0.out).trans Q0.out
    clear HO B0 Q0 b1 L0
    go_wp2_with (first
     | (at_lookup; refine wpList_lookup_own_ok _ rfl _ _ 128 rfl 161 159 zrs Tryz.underlying128 uvR (zv3 _) (.held (.agg #[.string ⟨#[]⟩, .int .i64 0, .string ⟨#[]⟩, .slice none 0 0, .string ⟨#[]⟩])) [] rfl mb ps.length D rfl M1.out _ (zaw h) rfl HK.out ?_; intro vv qs hv; rw [H2.out] at hv; rw [H1.out]; obtain rfl := zv7 hv; clear hv
        have Q2:Hid ((w1.alloc (.cells #[.string u0,.int .i64 u1,.string u2,.slice u3 m3 c3,.string u4] 159)).heap[w.heap.size]? = some (.cells #[.string ⟨#[]⟩,.int .i64 0,.string ⟨#[]⟩,.slice none 0 0,.string ⟨#[]⟩] 159 (0,0))):=(Below.heap_alloc _ _ _ (lt_of_block Q1.out)).trans Q1.out
        have B2:Hid (Below w.heap.size w (w1.alloc (.cells #[.string u0,.int .i64 u1,.string u2,.slice u3 m3 c3,.string u4] 159))):=B1.out.alloc B1.out.size _
        obtain⟨q0,q1,q2,q3,q4,qf⟩:=zeh Q2.out
        have qf0:=qf 0
        have qf1:=qf 1
        have qf2:=qf 2
        have qf3:=qf 3
        have qf4:=qf 4
        clear qf)
     | go_in)
    exact bodyPost_ret (v:=.tuple #[.agg #[.string u0,.int .i64 u1,.string u2,.slice u3 m3 c3,.string u4],.bool ok]) (zbz rfl _ _ w.heap.size 159 _ _ rfl (zv4 _ _ _ _ _ Q2.out) Tryz.underlying159 rfl (by kernel_rfl) (.bool ok) rfl) rfl ⟨rfl,zv5 B2.out (Nat.le_refl _) _ _ _ _ _⟩
   obtain⟨D,hD,hcase⟩:=zv9 hst hM h h32
   rcases hcase with ⟨hf,h1,h2⟩ | ⟨t,v,hf,hr,h1,h2,a,m,c,rfl,ho⟩
   · rw[hf]
     exact (fin D _ _ _ _ _ _ _ _ (hD.kept (zbw hB none) (by simp)) h1 (h2 _)).mono fun e w' h=>h
   · rw[hf]
     obtain⟨rfl,_,hi⟩:=zc8 ho
     exact (fin D _ _ _ _ _ _ _ _ (hD.kept (zbw hB none) (by simp)) h1 (h2 _)).mono fun e w' h=>⟨⟨a,c,h.1,hi,hr⟩,h.2⟩
 · have hf:=zv1 ps hst h h32
   rw[hf]
   have h32':¬ (h.length:Int)=32:=by omega
   clear hf hst hM hB
   go_enter Tryz.func102,Tryz.ntmps102
   go_wp2
   exact bodyPost_ret (v:=.tuple #[.agg #[.string ⟨#[]⟩,.int .i64 0,.string ⟨#[]⟩,.slice none 0 0,.string ⟨#[]⟩],.bool false]) (zbz rfl _ _ w.heap.size 159 _ _ rfl (heap_alloc_new w _) Tryz.underlying159 rfl (by kernel_rfl) (.bool false) rfl) rfl ⟨rfl,(Below.refl _ _).alloc (Nat.le_refl _) _⟩
theorem zuq (ps:List za) (hm:∀ p∈ps,p.1.length≤1048576∧p.2.length≤1048576) (h t:List UInt8) (hf:zm ps h=some t):t.length≤1048576:=by
 unfold zm at hf
 rw[Option.map_eq_some_iff] at hf
 obtain⟨p,hp,rfl⟩:=hf
 exact (hm p (List.mem_of_find?_eq_some hp)).2
theorem zur {w w':World} {t:List UInt8} {e:Ending} (h:zd3 w (za1 t) e w'):∃ (a:Option Addr) (c:Nat),e=.returned (.tuple #[.agg #[.int .i64 (nodeAt t).k,.string ⟨(nodeAt t).p.toArray⟩,.slice a (nodeAt t).ls.length c,.string ⟨(nodeAt t).v.toArray⟩],.bool (za1 t).isSome])∧w'.ownsRow w.heap.size 9 1 (.slice a (nodeAt t).ls.length c) (nodeAt t).ls.length (zh (nodeAt t).ls)∧Below w.heap.size w w':=by
 obtain⟨a,m,c,he,ho,hb⟩:=h
 obtain⟨hm,_,_⟩:=zc8 ho
 subst hm
 exact⟨a,c,he,ho,hb⟩
def ownP (full v:List UInt8):List za:=if v=[] then [] else [(pack full,v)]
def zc7 (k:Int) (full:List UInt8) (i:Nat):List UInt8:=if k=3 then full ++ [UInt8.ofNat i] else full
def za2 (g:List UInt8→List UInt8→Option (List za)) (k:Int) (full:List UInt8) (ls:List (List UInt8)):Nat→Option (List za)
 | 0=>some []
 | j + 1 => match za2 g k full ls j with
   | none=>none
   | some l=>if ls.getD j []=[] then some l else (g (ls.getD j []) (zc7 k full j)).map (l ++ ·)
def zb9 (full v:List UInt8):Bool:=decide (full.length≤24) && (decide (v=[]) || decide (full.length % 2=0))
def atF (find:List UInt8→Option (List UInt8)):Nat→List UInt8→List UInt8→Option (List za)
 | 0,_,_=>none
 | f + 1, h, path => match find h with
   | none=>none
   | some t=>if zb9 (path ++ (nodeAt t).p) (nodeAt t).v=true then (za2 (atF find f) (nodeAt t).k (path ++ (nodeAt t).p) (nodeAt t).ls (nodeAt t).ls.length).map (ownP (path ++ (nodeAt t).p) (nodeAt t).v ++ ·) else none
def zau (r:Option (List za)):Option (List za):=r.bind fun l=>if l.length≤60 then some l else none
theorem zh5 (find:List UInt8→Option (List UInt8)) (f:Nat) (h path:List UInt8) (hf:find h=none):atF find f h path=none:=by
 cases f with
 | zero=>rfl
 | succ f=>simp only[atF,hf]
theorem zjg (find:List UInt8→Option (List UInt8)) (f:Nat) (h path t:List UInt8) (k:Int) (p v:List UInt8) (ls:List (List UInt8)) (hf:find h=some t) (hn:nodeAt t=⟨k,p,ls,v⟩) :
 atF find (f+1) h path=if zb9 (path ++ p) v=true then (za2 (atF find f) k (path ++ p) ls ls.length).map (ownP (path ++ p) v ++ ·) else none:=by
 simp only[atF,hf,hn]
theorem zn5 (find:List UInt8→Option (List UInt8)) (f:Nat) (h path:List UInt8) (hp:24<path.length):atF find f h path=none:=by
 cases f with
 | zero=>rfl
 | succ f =>
   cases hf:find h with
   | none=>exact zh5 find _ h path hf
   | some t =>
     simp only[atF,hf]
     rw[if_neg]
     simp only[zb9,Bool.and_eq_true,decide_eq_true_eq,List.length_append]
     omega
theorem zn6 {g:List UInt8→List UInt8→Option (List za)} {k:Int} {full:List UInt8} {ls:List (List UInt8)} {j:Nat} {l:List za} (h:za2 g k full ls j=some l) (hk:ls.getD j []=[]):za2 g k full ls (j+1)=some l:=by
 simp only[za2,h,if_pos hk]
theorem zg2 {g:List UInt8→List UInt8→Option (List za)} {k:Int} {full:List UInt8} {ls:List (List UInt8)} {j:Nat} {l:List za} (h:za2 g k full ls j=some l) (hk:ls.getD j []≠[]):za2 g k full ls (j+1)=(g (ls.getD j []) (zc7 k full j)).map (l ++ ·):=by
 simp only[za2,h,if_neg hk]
theorem zn7 {g:List UInt8→List UInt8→Option (List za)} {k:Int} {full:List UInt8} {ls:List (List UInt8)} {j:Nat} (h:za2 g k full ls j=none):∀ m,j≤m→za2 g k full ls m=none
 | 0, hm => by obtain rfl : j = 0 := by omega
               exact h
 | m + 1, hm => by
   by_cases e:j=m+1
   · rw[←e];exact h
   · simp only[za2,zn7 h m (by omega)]
theorem zn8 {g:List UInt8→List UInt8→Option (List za)} {k:Int} {full:List UInt8} {ls:List (List UInt8)} {j:Nat} {l:List za} (h:za2 g k full ls j=some l):∀ m,j≤m→∀ r,za2 g k full ls m=some r→l.length≤r.length
 | 0, hm, r, hr => by
   obtain rfl:j=0:=by omega
   rw[h] at hr;cases hr;exact Nat.le_refl _
 | m + 1, hm, r, hr => by
   by_cases e:j=m+1
   · subst e;rw[h] at hr;cases hr;exact Nat.le_refl _
   · cases hk:za2 g k full ls m with
     | none=>simp only[za2,hk] at hr;cases hr
     | some l2 =>
       have h1:=zn8 h m (by omega) l2 hk
       simp only[za2,hk] at hr
       split at hr
       · cases hr;exact h1
       · rw[Option.map_eq_some_iff] at hr
         obtain⟨x,_,rfl⟩:=hr
         simp only[List.length_append];omega
def Lost (r:Option (List za)) (n:Nat):Prop:=r=none∨∃ l,r=some l∧60<n+l.length
theorem lost_cap {r:Option (List za)}:Lost r 0↔zau r=none:=by
 cases r with
 | none=>simp[Lost,zau]
 | some l=>simp[Lost,zau]
theorem zus {r:Option (List za)} {o:List za} {n:Nat} (h:Lost r (n+o.length)):Lost (r.map (o ++ ·)) n:=by
 rcases h with rfl | ⟨l,rfl,h⟩
 · exact .inl rfl
 · exact .inr ⟨_,rfl,by simp only[List.length_append];omega⟩
theorem zut {g:List UInt8→List UInt8→Option (List za)} {k:Int} {full:List UInt8} {ls:List (List UInt8)} {j n:Nat} {l:List za} (h:za2 g k full ls j=some l) (hj:j<ls.length) (hk:ls.getD j []≠[]) (hl:Lost (g (ls.getD j []) (zc7 k full j)) (n+l.length)):Lost (za2 g k full ls ls.length) n:=by
 have h1:=zg2 h hk
 rcases hl with e | ⟨x,e,hx⟩
 · rw[e] at h1
   exact .inl (zn7 h1 _ hj)
 · rw[e] at h1
   cases hr:za2 g k full ls ls.length with
   | none=>exact .inl rfl
   | some r =>
     have:=zn8 h1 _ hj r hr
     simp only[List.length_append] at this
     exact .inr ⟨r,rfl,by omega⟩
theorem zuu (find:List UInt8→Option (List UInt8)) (f:Nat) (k:Int) (full y:List UInt8) (hy:y.length=32) (hf:24<full.length):za2 (atF find f) k full [y] 1=none:=by
 have h0:za2 (atF find f) k full [y] 0=some []:=rfl
 have hne : [y].getD 0 []≠[]:=fun e=>by
  have:y=[]:=e
  subst this
  simp at hy
 rw[zg2 h0 hne,zn5 find f _ _ (by
  unfold zc7
  split
  · simp;omega
  · exact hf)]
 rfl
theorem zn9 {r:Option (List za)} {a b:Nat} (h:Lost r a) (hab:a≤b):Lost r b:=by
 rcases h with e | ⟨l,e,h⟩
 · exact .inl e
 · exact .inr ⟨l,e,by omega⟩
theorem zjh {g:List UInt8→List UInt8→Option (List za)} {k:Int} {full:List UInt8} {ls:List (List UInt8)} {j n:Nat} {l o:List za} (h:za2 g k full ls j=some l) (hj:j<ls.length) (hk:ls.getD j []≠[]) (hl:Lost (g (ls.getD j []) (zc7 k full j)) (n+o.length+l.length)):Lost ((za2 g k full ls ls.length).map (o ++ ·)) n :=
 zus (zut h hj hk hl)
theorem zuv {r:Option (List za)} {l:List za} (h:r=some l) (hl:l.length≤60):zau r=some l:=by subst h;simp[zau,hl]
theorem zdq {r:Option (List za)} {l:List za} (h:zau r=some l):r=some l∧l.length≤60:=by
 unfold zau at h
 rw[Option.bind_eq_some_iff] at h
 obtain⟨x,rfl,hx⟩:=h
 split at hx
 · cases hx;exact⟨rfl,by assumption⟩
 · cases hx
theorem zuw (full v:List UInt8):(ownP full v).length≤1:=by unfold ownP;split <;> simp
theorem zji {g:List UInt8→List UInt8→Option (List za)} {k:Int} {full:List UInt8} {ls:List (List UInt8)} {P:za→Prop} (hg:∀ h p l,g h p=some l→∀ e∈l,P e):∀ j l,za2 g k full ls j=some l→∀ e∈l,P e
 | 0,l,h,e,he=>by cases h;cases he
 | j + 1, l, h, e, he => by
   cases hk:za2 g k full ls j with
   | none=>simp only[za2,hk] at h;cases h
   | some l2 =>
     simp only[za2,hk] at h
     split at h
     · rw[←Option.some.inj h] at he;exact zji hg j l2 hk e he
     · rw[Option.map_eq_some_iff] at h
       obtain⟨x,hx,rfl⟩:=h
       rcases List.mem_append.1 he with h | h
       · exact zji hg j l2 hk e h
       · exact hg _ _ _ hx e h
theorem zh6 (find:List UInt8→Option (List UInt8)) (hok:∀ h t,find h=some t→(nodeAt t).ok=true):∀ f h path l,atF find f h path=some l→∀ e∈l,e.1.length≤12∧e.2.length≤60
 | 0,h,path,l,hl,e,he=>by cases hl
 | f + 1, h, path, l, hl, e, he => by
   cases hf:find h with
   | none=>rw[zh5 find _ h path hf] at hl;cases hl
   | some t =>
     have ho:=zjn _ (hok h t hf)
     rw[zjg find f h path t (nodeAt t).k (nodeAt t).p (nodeAt t).v (nodeAt t).ls hf rfl] at hl
     by_cases hfu:zb9 (path ++ (nodeAt t).p) (nodeAt t).v=true
     · rw [if_pos hfu] at hl
       simp only[zb9,Bool.and_eq_true,Bool.or_eq_true,decide_eq_true_eq] at hfu
       rw[Option.map_eq_some_iff] at hl
       obtain⟨x,hx,rfl⟩:=hl
       rcases List.mem_append.1 he with h | h
       · unfold ownP at h
         split at h
         · cases h
         · rename_i hv
           simp only[List.mem_singleton] at h
           subst h
           have h2:=hfu.2.resolve_left hv
           have hp:=zww _ h2
           refine⟨?_,ho.2.2.1⟩
           show (pack _).length≤12
           rw[hp];omega
       · exact zji (fun h p l hl=>zh6 find hok f h p l hl) _ x hx e h
     · rw[if_neg hfu] at hl
       cases hl
def za5 (ps:List za) (root:List UInt8):Option (List za) :=
 if zaa ps=true then (if root=emptyL then some [] else (atF (zm ps) 26 root []).bind fun l=>if zr l=true∧zae l=root then some l else none) else none
theorem zna {ps:List za} {root:List UInt8} (h:¬ zaa ps=true):za5 ps root=none:=by unfold za5;rw[if_neg h]
theorem znb {ps:List za} {root:List UInt8} (h:zaa ps=true) (he:root=emptyL):za5 ps root=some []:=by unfold za5;rw[if_pos h,if_pos he]
theorem znc {ps:List za} {root:List UInt8} (h:zaa ps=true) (he:¬ root=emptyL) (hl:Lost (atF (zm ps) 26 root []) 0):za5 ps root=none:=by
 unfold za5;rw[if_pos h,if_neg he]
 rcases hl with e | ⟨l,e,hn⟩
 · rw[e];rfl
 · rw[e]
   show (if zr l=true∧zae l=root then some l else none)=none
   rw[if_neg]
   rintro⟨h1,_⟩
   simp only[zr,Bool.and_eq_true] at h1
   have:=(zfj l h1.1).1
   omega
theorem znd {ps:List za} {root:List UInt8} {l:List za} (h:zaa ps=true) (he:¬ root=emptyL) (hl:atF (zm ps) 26 root []=some l):za5 ps root=if zr l=true∧zae l=root then some l else none:=by
 unfold za5;rw[if_pos h,if_neg he,hl];rfl
theorem zux {ps:List za} {root:List UInt8}:((za5 ps root).getD []).length≤60:=by
 unfold za5
 split
 · split
   · simp
   · cases h:atF (zm ps) 26 root [] with
     | none=>simp
     | some l =>
       show ((if zr l=true∧zae l=root then some l else none).getD []).length≤60
       split
       · rename_i h1
         have h2:=h1.1
         simp only[zr,Bool.and_eq_true] at h2
         exact (zfj l h2.1).1
       · simp
 · simp
structure GEnv (w:World) (bn bp bg mb:Nat) (v:Value) (acc:List za) (lim:Nat):Prop where
 nodes:w.heap[bn]? = some (.cells #[.map (some mb)] 128 (0,0))
 box:w.heap[bp]? = some (.cells #[v] 54 (0,0))
 self:w.heap[bg]? = some (.cells #[.func (.func 101) #[] #[.pointer (some ⟨bn,0,none⟩),.pointer (some ⟨bp,0,none⟩),.pointer (some ⟨bg,0,none⟩)]] 163 (0,0))
 row:w.ownsRow lim 103 2 v acc.length (zb acc)
theorem zg3 {w w':World} {base e size n:Nat} {v:Value} {xs:List Value} (h:w.ownsRow base e size v n xs) (hk:∀ q,v.ownBlock=some q→w'.heap[q]? = w.heap[q]?):w'.ownsRow base e size v n xs:=by
 refine⟨h.1,?_⟩
 rcases h.2 with hn | ⟨g,cap,cur,rfl,hb,hgg,rest⟩
 · exact .inl hn
 · exact .inr ⟨g,cap,cur,rfl,hb,(hk g rfl).trans hgg,rest⟩
theorem zuy {w:World} {b:Nat} {u v:Value} {t:TypeId} (h:w.heap[b]? = some (.cells #[u] t (0,0))):(w.setCell ⟨b,0,none⟩ v).heap[b]? = some (.cells #[v] t (0,0)):=by
 have hlt:=lt_of_block h
 have h':w.heap[b]=.cells #[u] t (0,0):=by simpa [Array.getElem?_eq_getElem hlt] using h
 show (w.heap.modify b _)[b]? = _
 rw[Array.getElem?_eq_getElem (by simpa using hlt),Array.getElem_modify_self,h']
 rfl
theorem GEnv.later {w w':World} {bn bp bg mb lim:Nat} {v:Value} {acc:List za} (h:GEnv w bn bp bg mb v acc lim) (h1:w'.heap[bn]? = w.heap[bn]?) (h2:w'.heap[bp]? = w.heap[bp]?) (h3:w'.heap[bg]? = w.heap[bg]?) (hk:∀ q,v.ownBlock=some q→w'.heap[q]? = w.heap[q]?):GEnv w' bn bp bg mb v acc lim :=
 ⟨h1.trans h.nodes,h2.trans h.box,h3.trans h.self,zg3 h.row hk⟩
theorem GEnv.below {w w':World} {bn bp bg mb lim:Nat} {v:Value} {acc:List za} (h:GEnv w bn bp bg mb v acc lim) (hb:Below w.heap.size w w'):GEnv w' bn bp bg mb v acc lim :=
 h.later (hb.block _ (lt_of_block h.nodes)) (hb.block _ (lt_of_block h.box)) (hb.block _ (lt_of_block h.self)) fun q hq=>hb.block q (h.row.lt q hq).2
structure GKept (w0 w:World) (bp:Nat) (v0 v:Value) (wr:World):Prop where
 below:Below w0.heap.size w0 wr
 size:w.heap.size≤wr.heap.size
 own:∀ b,v.ownBlock=some b→v0.ownBlock=some b∨w.heap.size≤b
 kept:∀ b,b<w.heap.size→b≠bp→v0.ownBlock≠some b→wr.heap[b]? = w.heap[b]?
theorem GKept.start {w0 w:World} {bp:Nat} {v:Value} (h:Below w0.heap.size w0 w):GKept w0 w bp v v w:=⟨h,Nat.le_refl _,fun b h=>.inl h,fun b _ _ _=>rfl⟩
theorem GKept.on {w0 w wr w3:World} {bp:Nat} {v0 v:Value} (h:GKept w0 w bp v0 v wr) (hb:Below wr.heap.size wr w3) (h0:w0.heap.size≤w.heap.size):GKept w0 w bp v0 v w3 :=
 ⟨h.below.trans (hb.mono (Nat.le_trans h0 h.size)),Nat.le_trans h.size hb.size,h.own,fun b h1 h2 h3=>(hb.block b (Nat.lt_of_lt_of_le h1 h.size)).trans (h.kept b h1 h2 h3)⟩
theorem GKept.trans {w0 w wr w3:World} {bp:Nat} {v0 v v3:Value} (h:GKept w0 w bp v0 v wr) (h2:GKept w0 wr bp v v3 w3):GKept w0 w bp v0 v3 w3:=by
 have hs:=h.size
 refine⟨h2.below,Nat.le_trans hs h2.size,fun b hb=>?_,fun b h1 hne hv=>(h2.kept b (by omega) hne fun e=>?_).trans (h.kept b h1 hne hv)⟩
 · rcases h2.own b hb with e | e
   · exact h.own b e
   · exact .inr (by omega)
 · rcases h.own b e with e | e
   · exact hv e
   · omega
def zjj (w0 w:World) (bn bp bg mb lim:Nat) (v:Value) (acc:List za) (res:Option (List za)) (r:Ending) (w':World):Prop :=
 (∃ l v',r=.returned (.bool true)∧res=some l∧GEnv w' bn bp bg mb v' (acc ++ l) lim∧acc.length+l.length≤61∧GKept w0 w bp v v' w')∨(r=.returned (.bool false)∧Lost res acc.length∧Below w0.heap.size w0 w')
def zh7 (w0:World) (bn bp bg mb lim:Nat) (ps:List za) (f:Nat):Prop :=
 ∀ (h path : List UInt8) (w : World) (v : Value) (acc : List za), h.length ≤ 1048576 → 26 ≤ f + path.length → path.length ≤ 25 → zq path = true → Below w0.heap.size w0 w → GEnv w bn bp bg mb v acc lim → acc.length ≤ 61 →
   Calls Tryz.prog 101 #[.string ⟨h.toArray⟩,.string ⟨path.toArray⟩,.pointer (some ⟨bn,0,none⟩),.pointer (some ⟨bp,0,none⟩),.pointer (some ⟨bg,0,none⟩)] w fun r w'=>zjj w0 w bn bp bg mb lim v acc (atF (zm ps) f h path) r w'
theorem zuz {w0 w:World} {bn bp bg mb lim:Nat} {v:Value} {acc:List za} {res:Option (List za)} {r:Ending} {w':World} (h:zjj w0 w bn bp bg mb lim v acc res r w') :
 ∃ ok:Bool,r=.returned (.bool ok)∧(ok=true→∃ l v',res=some l∧GEnv w' bn bp bg mb v' (acc ++ l) lim∧acc.length+l.length≤61∧GKept w0 w bp v v' w')∧(ok=false→Lost res acc.length∧Below w0.heap.size w0 w'):=by
 rcases h with ⟨l,v',rfl,h1,h2,h3,h4⟩ | ⟨rfl,h1,h2⟩
 · exact⟨true,rfl,fun _=>⟨l,v',h1,h2,h3,h4⟩,fun e=>by cases e⟩
 · exact⟨false,rfl,fun e=>absurd e (by decide),fun _=>⟨h1,h2⟩⟩
theorem GEnv.drewN {w:World} {bn bp bg mb lim n:Nat} {v:Value} {acc:List za} (h:GEnv w bn bp bg mb v acc lim):GEnv (w.drewN n) bn bp bg mb v acc lim:=⟨h.nodes,h.box,h.self,zg3 h.row fun _ _=>rfl⟩
theorem GKept.drewN {w0 w wr:World} {bp n:Nat} {v0 v:Value} (h:GKept w0 w bp v0 v wr):GKept w0 w bp v0 v (wr.drewN n):=⟨zx h.below,h.size,h.own,h.kept⟩
theorem GEnv.drew {w:World} {bn bp bg mb lim:Nat} {v:Value} {acc:List za} (h:GEnv w bn bp bg mb v acc lim):GEnv w.drew bn bp bg mb v acc lim:=⟨h.nodes,h.box,h.self,zg3 h.row fun _ _=>rfl⟩
theorem GKept.drew {w0 w wr:World} {bp:Nat} {v0 v:Value} (h:GKept w0 w bp v0 v wr):GKept w0 w bp v0 v wr.drew:=⟨h.below.drew,h.size,h.own,h.kept⟩
theorem GKept.more {w0 w wr:World} {bn bp bg mb lim:Nat} {v0 v:Value} {acc:List za} (hI:GKept w0 w bp v0 v wr) (hE:GEnv wr bn bp bg mb v acc lim) (h0:w0.heap.size≤w.heap.size)
 (hnp:bn≠bp) (hgp:bg≠bp) (hpl:bp<lim) (hnl:bn<lim) (hgl:bg<lim) (hp0:w0.heap.size≤bp) (hl0:w0.heap.size≤lim) (hlw:lim≤w.heap.size)
 {w3:World} (h3:Below wr.heap.size wr w3) {o:Obj} {w5:World} {v6:Value} {e:za} (hg5:(w3.alloc o).grownBy w5 v.ownBlock) (hv6:∀ b,v6.ownBlock=some b→v.ownBlock=some b∨b=(w3.alloc o).heap.size)
 (hr5:w5.ownsRow lim 103 2 v6 (acc.length+1) (zb acc ++ [.string ⟨e.1.toArray⟩,.string ⟨e.2.toArray⟩])) :
 GKept w0 w bp v0 v6 (w5.setCell ⟨bp,0,none⟩ v6)∧GEnv (w5.setCell ⟨bp,0,none⟩ v6) bn bp bg mb v6 (acc ++ [e]) lim:=by
 have hsz:=hI.size
 have hs3:=h3.size
 have hsz5:=hg5.size
 simp only[World.size_alloc] at hsz5
 have hvl:=fun q (hq:v.ownBlock=some q)=>hE.row.lt q hq
 have K:∀ b,b<wr.heap.size→v.ownBlock≠some b→w5.heap[b]? = wr.heap[b]? := fun b h1 h2 =>
  (hg5.block b (by simp;omega) (fun e=>h2 e.symm)).trans ((heap_alloc_old w3 o (by omega)).trans (h3.block b h1))
 have hbn:=lt_of_block hE.nodes
 have hbp:=lt_of_block hE.box
 have hbg:=lt_of_block hE.self
 refine⟨⟨?_,by simp;omega,?_,?_⟩,⟨?_,?_,?_,?_⟩⟩
 · exact (((hI.below.trans (h3.mono (by omega))).alloc (by omega) o).grown hg5 (by simp;omega) fun q hq=>by have:=hvl q hq;omega).setCell (p:=⟨bp,0,none⟩) (by simp only;omega) _
 · intro b hb
   rcases hv6 b hb with h | h
   · exact hI.own b h
   · exact .inr (by simp at h;omega)
 · intro b h1 h2 h3'
   refine (Below.heap_setCell _ _ _ _ (by simp only;omega)).trans ((K b (by omega) fun e=>?_).trans (hI.kept b h1 h2 h3'))
   rcases hI.own b e with h | h
   · exact h3' h
   · omega
 · exact (Below.heap_setCell _ _ _ _ (by simp only;omega)).trans ((K bn hbn fun e=>by have:=hvl _ e;omega).trans hE.nodes)
 · exact zuy ((K bp hbp fun e=>by have:=hvl _ e;omega).trans hE.box)
 · exact (Below.heap_setCell _ _ _ _ (by simp only;omega)).trans ((K bg hbg fun e=>by have:=hvl _ e;omega).trans hE.self)
 · rw[zc2,List.length_append]
   exact zg3 hr5 fun q hq=>Below.heap_setCell _ _ _ _ (by have:=(hr5.lt q hq).1;simp only;omega)
end Go.Proofs.YtppljdnbhoeeoaaGreatDoor
