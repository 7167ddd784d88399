import Derived.Test.YthmlndmlnlfhnaaGreatDoorK2cc7dcc8
set_option maxRecDepth 100000
set_option maxHeartbeats 16000000
namespace Go.Proofs.YthmlndmlnlfhnaaGreatDoor
open Go.RowKit Go.Shelf
theorem ymh:Tryz.prog.underlying 64=some (.slice 30):=by kernel_rfl
theorem ypm:(Tryz.prog.info? 30).map (fun i=>(i.zero,i.size,i.bytes))=some (some (.agg #[.int .i64 0,.int .i64 0,.string ⟨#[]⟩,.slice none 0 0,.slice none 0 0]),5,80):=by kernel_rfl
theorem jvp {α:Type} {E:Enc α} {P:Program} (w:World) {ops:Array Oper} {rest:List Oper} {o:Oper} {a:Act} {Q:Exit→Act→World→Prop} (hgd:o.guard=none) (s x:Operand) (t:TypeId)
  (ho:o.op = .call { callee:=.builtin .append,args:=#[s,x],argTypes:=#[t,t] })
  (base:Nat) (S:Nat→Prop) (e:TypeId) (bytes:Nat) (z:Value) (ht:P.underlying t=some (.slice e)) (hinfo:(P.info? e).map (fun i=>(i.zero,i.size,i.bytes))=some (some z,E.size,bytes)) (hzs:z.cells.size=E.size) (hsz:0<E.size)
  (v:Value) (l:List α) (hs:a.eval s=v) (hown:OwnS E w base S e v l)
  (ad:Addr) (y:α) (cs:List Value) (hx:a.eval x = .slice (some ad) 1 1) (hy:E.rd w S y cs) (hnews:∀ j u,cs[j]? = some u→w.cell? (ad.add j)=some u) (hS:∀ k,S k→k<w.heap.size∧v.ownBlock≠some k)
  (hbytes:(l.length+1)*bytes≤140737488355328) (h63:l.length+1≤maxLen) (hbase:base≤w.heap.size)
  (h:∀ v' w',OwnS E w' base S e v' (l ++ [y])→w.grownBy w' v.ownBlock→jed w v v'→wpList P ops Q rest (a.put o.dst v') w'):wpList P ops Q (o :: rest) a w:=by
 obtain ⟨us,h1,h2⟩:=hown
 refine jav w hgd s x t ho base e E.size bytes z ht hinfo hzs hsz v l.length us hs h1 ad 1 1 cs hx (by rw [E.len hy];omega) hnews (E.one hy) h63 hbytes hbase ?_
 intro v' w' ho' hg' hm
 refine h v' w' ⟨us ++ cs,by rw [List.length_append];exact ho',?_⟩ hg' hm
 exact ((h2.append (jb9.one hy) h1.1).keep (w':=w') fun p hp=>World.cell?_of_block (hg'.block _ (hS _ hp).1 fun e=>(hS _ hp).2 e.symm))
structure Reps (w wr:World) (c:Nat→Nat) (v:Value) (l:List ReplyD):Prop where
 row:OwnS Enc.rep wr w.heap.size (fun b=>w.heap.size≤b∧b<wr.heap.size∧c b=0∧v.ownBlock≠some b) 30 v l
 col:∀ b,v.ownBlock=some b→c b=0
theorem Reps.sl {w wr:World} {c:Nat→Nat} {v:Value} {l:List ReplyD} (h:Reps w wr c v l):Sl Enc.rep wr (From w.heap.size wr) l v :=
 h.row.sl (fun k hk=>h.row.lt k hk) (fun _ hk=>⟨hk.1,hk.2.1⟩)
theorem Reps.did {w wr w2:World} {c c':Nat→Nat} {v:Value} {l:List ReplyD} (h:Reps w wr c v l) (hF:Fr c wr w2) (hold:∀ b,b<wr.heap.size→c' b=c b):Reps w w2 c' v l:=by
 have hlt:=h.row.lt
 refine ⟨(h.row.keep (fun k hk=>hF.block k (hlt k hk).2 (h.col k hk)) (fun k hk=>hF.block k hk.2.1 hk.2.2.1)).more fun k hk=>⟨hk.1,Nat.lt_of_lt_of_le hk.2.1 hF.size,(hold k hk.2.1).trans hk.2.2.1,hk.2.2.2⟩,fun b hb=>(hold b (hlt b hb).2).trans (h.col b hb)⟩
theorem Reps.next {w wr w2:World} {c:Nat→Nat} {v:Value} {l:List ReplyD} (h:Reps w wr c v l) (hb:Below wr.heap.size wr w2):Reps w w2 c v l:=h.did (Fr.below hb) (fun _ _=>rfl)
def jx8 (l:List ActD) (w:World) (e:Ending) (w':World):Prop:=∃ u,e = .returned (.tuple #[u,.int .i64 0])∧Sl Enc.rep w' (From w.heap.size w') (repV newV l) u∧Below w.heap.size w w'
theorem jx8.of {l:List ActD} {w w':World} {u:Value} (h:Sl Enc.rep w' (From w.heap.size w') (repV newV l) u) (hb:Below w.heap.size w w'):jx8 l w (.returned (.tuple #[u,.int .i64 0])) w':=⟨u,rfl,h,hb⟩
theorem ycj (l:List ActD) (v:Value) (w:World) (hl:Sl Enc.act w (Old w) l v) (hsz:∀ a∈l,a.name.size≤140737488355328∧a.text.size≤140737488355328) (hv:VarsOk w) (h50:l.length≤50) :
  Calls Tryz.prog 36 #[v] w (jx8 l w):=by
 have HV:=Lib.hid hv
 have HL:=Lib.hid hl
 have HSZ:=Lib.hid hsz
 obtain ⟨A,cp,rfl,hc1,hc2,-⟩:=hl
 unfold maxLen at hc2
 have h200:¬ (200:Int)<(l.length:Int):=by omega
 clear hv hsz
 go_enter Tryz.func36,Tryz.ntmps36
 go_wp2_with fail
 refine (jn3 _).mono ?_
 rintro e w2 ⟨rfl,hw2⟩
 have M2:Hid (Mine w w2 w.heap.size newV (c1 w.heap.size) new0 (.slice none 0 0)):=by rw [hw2];exact Mine.new w w _ (Below.refl _ _)
 clear hw2
 go_wp2
 go_loopw [5,14] (fun u i wr=>∃ (k:Nat) (c:Nat→Nat) (vs:List Value) (vl:Value),k≤l.length∧i = .int .i64 k∧Hid (Mine w wr w.heap.size (runV newV (l.take k)) c vs vl)∧Hid (Reps w wr c u (repV newV (l.take k)))) (fun _ i _=>l.length-(intOf i).toNat)
 case atStart=>exact ⟨0,_,_,_,Nat.zero_le _,rfl,M2,⟨OwnS.nil,fun b hb=>by cases hb⟩⟩
 case round =>
  clear M2
  obtain ⟨k,c,vs,vl,hk,rfl,M,RP⟩:=hrel
  by_cases hlt:k<l.length
  ·have hi1:(k:Int)<l.length:=by omega
   have hi0:(0:Int)≤k:=by omega
   have hbr:=M.out.below
   have hsr:=hbr.size
   obtain ⟨b,o,x,vi,rfl,hSb,hx,a0,a1,a2,a3,a4,hin⟩:=(HL.out.keep (w':=wr) (fun p hp=>hbr.cell hp)).act_at hlt
   have HIN:=Lib.hid hin
   obtain ⟨Ai,ci,rfl,-,-⟩:=hin.form
   have hsx:=HSZ.out x (List.mem_of_getElem? hx.out)
   have HT:Hid (runV newV (l.take (k+1))=(doV (runV newV (l.take k)) x).1):=jtk newV hx.out
   have HT2:Hid (repV newV (l.take (k+1))=repV newV (l.take k) ++ [(doV (runV newV (l.take k)) x).2]):=ypn newV hx.out
   have HLN:Hid ((repV newV (l.take k)).length=k):=by show _=_;rw [jpt,List.length_take];omega
   clear hin hSb
   have hb1:=jac wr (.cells #[.int .i64 x.kind,.int .i64 x.n,.string x.name,.string x.text,.slice Ai x.inp.length ci] 24)
   have B1:=Lib.hid (Cs.new wr [.int .i64 x.kind,.int .i64 x.n,.string x.name,.string x.text,.slice Ai x.inp.length ci] 24)
   change Hid (Cs (wr.alloc (.cells #[.int .i64 x.kind,.int .i64 x.n,.string x.name,.string x.text,.slice Ai x.inp.length ci] 24)) _ _) at B1
   have M1:=Lib.hid (M.out.next hb1)
   have RP1:=Lib.hid (RP.out.next hb1)
   have HA:Hid (jgy (wr.alloc (.cells #[.int .i64 x.kind,.int .i64 x.n,.string x.name,.string x.text,.slice Ai x.inp.length ci] 24)) (fun b=>b<(wr.alloc (.cells #[.int .i64 x.kind,.int .i64 x.n,.string x.name,.string x.text,.slice Ai x.inp.length ci] 24)).heap.size∧c b=0) x (.agg #[.int .i64 x.kind,.int .i64 x.n,.string x.name,.string x.text,.slice Ai x.inp.length ci])):=⟨_,rfl,(HIN.out.keep fun p hp=>hb1.cell (Nat.lt_of_lt_of_le hp hsr)).more fun q hq=>⟨Nat.lt_of_lt_of_le (Nat.lt_of_lt_of_le hq hsr) hb1.size,M.out.old q hq⟩⟩
   have q0:=B1.out.at 0 rfl
   have q1:=B1.out.at 1 rfl
   have q2:=B1.out.at 2 rfl
   have q3:=B1.out.at 3 rfl
   have q4:=B1.out.at 4 rfl
   generalize hRT:runV newV (l.take k)=RT at *
   go_wp2_with fail
   generalize wr.alloc (.cells #[.int .i64 x.kind,.int .i64 x.n,.string x.name,.string x.text,.slice Ai x.inp.length ci] 24)=w1 at *
   clear q0 q1 q2 q3 q4
   refine (M1.out.do_ HV.out x _ HA.out hsx.1 hsx.2).mono ?_
   rintro e w3 hP
   obtain ⟨A1,k1,A2,k2,c3,vs3,vl3,rfl,m3,hF3,hold3,hans,hat⟩:=M1.out.did hP
   have M3:=Lib.hid m3
   have RP3:=Lib.hid (RP1.out.did hF3 hold3)
   clear hP m3
   rw [← HT.out] at M3
   generalize (doV RT x).2=R at *
   have hs3:=M3.out.below.size
   have hb3:=jac w3 (.cells #[.int .i64 R.code,.int .i64 R.n,.string R.text,.slice A1 R.answers.length k1,.slice A2 R.at_.length k2] 30)
   have hz3:(w3.alloc (.cells #[.int .i64 R.code,.int .i64 R.n,.string R.text,.slice A1 R.answers.length k1,.slice A2 R.at_.length k2] 30)).heap.size=w3.heap.size+1:=by simp
   have M4:=Lib.hid (M3.out.next hb3)
   have RP4:=Lib.hid (RP3.out.next hb3)
   have hs1:=M1.out.below.size
   have HY:Hid (Enc.rep.rd (w3.alloc (.cells #[.int .i64 R.code,.int .i64 R.n,.string R.text,.slice A1 R.answers.length k1,.slice A2 R.at_.length k2] 30)) (fun b=>w.heap.size≤b∧b<(w3.alloc (.cells #[.int .i64 R.code,.int .i64 R.n,.string R.text,.slice A1 R.answers.length k1,.slice A2 R.at_.length k2] 30)).heap.size∧c3 b=0∧u5.ownBlock≠some b) R [.int .i64 R.code,.int .i64 R.n,.string R.text,.slice A1 R.answers.length k1,.slice A2 R.at_.length k2]):=by
    have hof:∀ q,(w1.heap.size≤q∧q<w3.heap.size∧c3 q=0)→(w.heap.size≤q∧q<(w3.alloc (.cells #[.int .i64 R.code,.int .i64 R.n,.string R.text,.slice A1 R.answers.length k1,.slice A2 R.at_.length k2] 30)).heap.size∧c3 q=0∧u5.ownBlock≠some q):=fun q hq=>⟨by omega,by omega,hq.2.2,fun e=>by have:=(RP1.out.row.lt q e).2;omega⟩
    exact ⟨_,_,rfl,(hans.keep fun p hp=>hb3.cell hp.2.1).more hof,(hat.keep fun p hp=>hb3.cell hp.2.1).more hof⟩
   have HSS:Hid (∀ q,(w.heap.size≤q∧q<(w3.alloc (.cells #[.int .i64 R.code,.int .i64 R.n,.string R.text,.slice A1 R.answers.length k1,.slice A2 R.at_.length k2] 30)).heap.size∧c3 q=0∧u5.ownBlock≠some q)→q<(w3.alloc (.cells #[.int .i64 R.code,.int .i64 R.n,.string R.text,.slice A1 R.answers.length k1,.slice A2 R.at_.length k2] 30)).heap.size∧u5.ownBlock≠some q):=fun q hq=>⟨hq.2.1,hq.2.2.2⟩
   clear hans hat
   go_wp2_with (at_builtin;refine jvp (E:=Enc.rep) _ rfl _ _ 64 rfl w.heap.size _ 30 80 (.agg #[.int .i64 0,.int .i64 0,.string ⟨#[]⟩,.slice none 0 0,.slice none 0 0]) ymh ypm rfl (by decide) _ _ rfl RP4.out.row ⟨w3.heap.size,0,none⟩ R [.int .i64 R.code,.int .i64 R.n,.string R.text,.slice A1 R.answers.length k1,.slice A2 R.at_.length k2] rfl HY.out (jwo _ _ _ _ _ _ _) HSS.out (by rw [HLN.out];omega) (by rw [HLN.out];unfold maxLen;omega) (by omega) ?_;intro v5 w5 ho5 hg5 hm5)
   have hrow:∀ q,u5.ownBlock=some q→w.heap.size≤q∧q<w1.heap.size:=fun q hq=>RP1.out.row.lt q hq
   have hg5s:=hg5.size
   refine ⟨⟨k+1,c3,vs3,vl3,by omega,by go_num,?_,?_⟩,by simp [intOf];omega⟩
   ·exact ⟨M4.out.st.keep (fun q hq=>hg5.block q (M4.out.st.lt q hq) (fun e=>hq (RP4.out.col q e.symm))) hg5.size,M4.out.old,M4.out.below.grown hg5 (by omega) (fun q hq=>(hrow q hq).1)⟩
   ·rw [HT2.out]
    refine ⟨ho5.more fun q hq=>⟨hq.1,by omega,hq.2.2.1,fun e=>?_⟩,fun q hq=>?_⟩
    ·rcases hm5 q e with h | h
     ·exact hq.2.2.2 h
     ·omega
    ·rcases hm5 q hq with h | h
     ·exact RP4.out.col q h
     ·exact jb1 M4.out.st.lt h
  ·have hlt':¬ (k:Int)<l.length:=by omega
   have e1:l.take k=l:=List.take_of_length_le (by omega)
   rw [e1] at RP
   clear e1
   have HS:=Lib.hid RP.out.sl
   go_wp2
   go_ret2
   exact jx8.of HS.out M.out.below
end Go.Proofs.YthmlndmlnlfhnaaGreatDoor
