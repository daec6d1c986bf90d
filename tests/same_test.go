package tests

import (
	"fmt"
	"go/ast"
	"go/parser"
	"go/token"
	"maps"
	"math"
	"path/filepath"
	"reflect"
	"slices"
	"sync"
	"testing"

	"loop.example/g00226/impl"
)

// P17, of all chapters: the same arguments give the same answers; nothing is written into an argument. And, by the conventions: an answer is new memory.

// oneCall: a function of the document and arguments that it takes.
type oneCall struct {
	name string
	f    any
	args []any
}

// ordinaryCalls: each function that the document lists, at least once with arguments that are right.
func ordinaryCalls(t *testing.T) []oneCall {
	t.Helper()
	pairs := pairsOf("do", "verb", "dog", "puppy", "doge", "coin", "horse", "stallion")
	store, top := trieNodes(t, pairs), trieRoot(t, pairs)
	batch := batchOf(1, 1, "dog", "hound", "do", "")
	replica := replicaOf(t, 4, sessionsOf(3, 9), pairs)
	row := appendOp("log", rowFrame(t, 5, batch))
	base := filesOf("base", baseFrame(t, 4, sessionsOf(3, 9), pairs))
	disk := diskOf(base, row)
	chunks := plainChunks(pairs, 3)
	return slices.Concat(codecCalls(t), []oneCall{
		{"PairsOk", impl.PairsOk, []any{pairs}}, {"EmptyRoot", impl.EmptyRoot, nil}, {"RootOf", impl.RootOf, []any{pairs}}, {"NodesOf", impl.NodesOf, []any{pairs}}, {"SetPair", impl.SetPair, []any{pairs, "dogs", "many"}}, {"SetPair", impl.SetPair, []any{pairs, "dog", ""}},
		{"NodeText", impl.NodeText, []any{branchNode(kidsAt(1, 2), "v")}}, {"ReadNode", impl.ReadNode, []any{store[0].Text}}, {"StoreOk", impl.StoreOk, []any{store}}, {"StoreGet", impl.StoreGet, []any{store, top}}, {"StoreAdd", impl.StoreAdd, []any{store, storeOf(leafTexts(0, 3)...)}},
		{"Get", impl.Get, []any{store, top, "dog"}}, {"PairsAt", impl.PairsAt, []any{store, top}}, {"Put", impl.Put, []any{store, top, "dogs", "many"}}, {"Cut", impl.Cut, []any{store, top, "dog"}}, {"Reached", impl.Reached, []any{store, top}}, {"Pruned", impl.Pruned, []any{store, []string{top, impl.EmptyRoot()}}},
		{"ProofOf", impl.ProofOf, []any{store, top, "dog"}}, {"CheckProof", impl.CheckProof, []any{top, "dog", proofOf(t, store, top, "dog")}}, {"Agrees", impl.Agrees, []any{store, proofOf(t, store, top, "dog")}}, {"ProofBytes", impl.ProofBytes, []any{proofOf(t, store, top, "dog")}},
		{"BatchOk", impl.BatchOk, []any{batch}}, {"BatchText", impl.BatchText, []any{batch}}, {"ReadBatch", impl.ReadBatch, []any{impl.BatchText(batch)}}, {"ApplyPairs", impl.ApplyPairs, []any{pairs, batch}}, {"ApplyStore", impl.ApplyStore, []any{store, top, batch}},
		{"ReplicaOk", impl.ReplicaOk, []any{replica}}, {"ReplicaNew", impl.ReplicaNew, nil}, {"Applied", impl.Applied, []any{replica, int64(5), batch}}, {"Applied", impl.Applied, []any{replica, int64(5), batchOf(3, 9, "a", "1")}}, {"ReplicaPairs", impl.ReplicaPairs, []any{replica}}, {"ReplicaText", impl.ReplicaText, []any{replica}}, {"ReadReplica", impl.ReadReplica, []any{impl.ReplicaText(replica)}},
		{"CheckText", impl.CheckText, []any{int64(4), top}}, {"VoteFor", impl.VoteFor, []any{impl.Signer{Seed: nodeSeed(1), Used: 2}, int64(1), int64(4), top}}, {"VoteOk", impl.VoteOk, []any{nodeKeys(t, 3), int64(4), top, voteOf(t, 1, 0, 4, top)}}, {"CertOk", impl.CertOk, []any{nodeKeys(t, 3), certFor(t, 3, 4, top)}}, {"Gathered", impl.Gathered, []any{nodeKeys(t, 3), int64(4), top, votesOf(t, 4, top, 2, 0, 1)}},
		{"ClientOk", impl.ClientOk, []any{clientOf(t, 3, 2, 7)}}, {"ReadAt", impl.ReadAt, []any{clientOf(t, 3, 2, 7), certFor(t, 3, 4, top), "dog", proofOf(t, store, top, "dog")}}, {"NextBatch", impl.NextBatch, []any{clientOf(t, 3, 2, 7), int64(5), opsOf("a", "1", "b", "")}},
		{"ChunksOf", impl.ChunksOf, []any{pairs, int64(3)}}, {"ImportNew", impl.ImportNew, []any{top}}, {"ImportOk", impl.ImportOk, []any{doneWith(t, pairs)}}, {"Took", impl.Took, []any{importOf(top, chunks[0].Pairs), chunks[1]}}, {"Took", impl.Took, []any{importOf(top, nil), chunks[0]}}, {"Imported", impl.Imported, []any{doneWith(t, pairs)}},
		{"DiskOk", impl.DiskOk, []any{disk}}, {"Do", impl.Do, []any{disk, renameOp("log", "other")}}, {"Sync", impl.Sync, []any{disk}}, {"Crash", impl.Crash, []any{disk, []int64{0}, int64(7)}}, {"ReadFile", impl.ReadFile, []any{disk, "log"}}, {"Replace", impl.Replace, []any{disk, "log", "data"}},
		{"FrameOf", impl.FrameOf, []any{"abc"}}, {"TakeFrames", impl.TakeFrames, []any{plainFrame("abc") + plainFrame("d")}}, {"DurableView", impl.DurableView, []any{disk}},
		{"DurableDo", impl.DurableDo, []any{disk, syncAct(batch)}}, {"DurableDo", impl.DurableDo, []any{disk, saveAct(4)}}, {"DurableDo", impl.DurableDo, []any{disk, openAct(-1)}}, {"DurableDo", impl.DurableDo, []any{disk, crashAct(-1, 20, 0)}},
		{"DurablePlay", impl.DurablePlay, []any{disk, []impl.Act{logAct(batch), saveAct(3), crashAct(-1, 9, 0)}}},
		{"RunScript", impl.RunScript, []any{"sync 1 1 a=1\nlog 1 2 b=2\ncrash 1 9\nsave\nroot\nall\nprove a\nfly\n"}},
	})
}

func codecCalls(t *testing.T) []oneCall {
	t.Helper()
	seed := seeds()[0]
	next, sig := signed(t, impl.Signer{Seed: seed}, "hello")
	return []oneCall{
		{"RlpText", impl.RlpText, []any{"dog"}}, {"RlpList", impl.RlpList, []any{[]string{impl.RlpText("dog"), "\xc0", "a"}}}, {"TakeRlp", impl.TakeRlp, []any{"\x83dogs"}}, {"RlpItems", impl.RlpItems, []any{"\xc5\x83dog\x01"}}, {"HexPrefix", impl.HexPrefix, []any{"\x01\x02\x03", true}}, {"ReadHexPrefix", impl.ReadHexPrefix, []any{"\x31\x23"}}, {"Nibbles", impl.Nibbles, []any{"dog"}},
		{"Sum", impl.Sum, []any{"abc"}}, {"Hex", impl.Hex, []any{"abc"}}, {"Tagged", impl.Tagged, []any{"tag", []string{"a", "", letters(60)}}},
		{"Digits", impl.Digits, []any{"hello"}}, {"ChainOf", impl.ChainOf, []any{seed, int64(1), int64(1), int64(2)}}, {"OncePublic", impl.OncePublic, []any{seed}}, {"OnceSign", impl.OnceSign, []any{seed, "hello"}}, {"OncePublicOf", impl.OncePublicOf, []any{"hello", sig.Once}},
		{"LeafSeed", impl.LeafSeed, []any{seed, int64(3)}}, {"KeyRoot", impl.KeyRoot, []any{seed}}, {"SignerOk", impl.SignerOk, []any{next}}, {"SignNext", impl.SignNext, []any{next, "hello"}}, {"RootOfSignature", impl.RootOfSignature, []any{"hello", sig}}, {"Verify", impl.Verify, []any{rootOf(t, seed), "hello", sig}},
	}
}

// otherArgs: what stands in the place of an argument of its type, right things and wrong ones.
func otherArgs(t *testing.T) map[reflect.Type][]any {
	t.Helper()
	list := []any{"", "\x00", "dog", "hello", letters(13), letters(32), letters(33), letters(60001), impl.EmptyRoot(), nodeSeed(1), "\x83dogs", "\xf8\x01a", "\xff\xff\xff", "root\n", "root", int64(-1), int64(0), int64(1), int64(2), int64(5), int64(60), int64(impl.MaxNumber), int64(impl.MaxNumber + 1), int64(math.MaxInt64), int64(math.MinInt64), false, true,
		[]int64(nil), []int64{0, 0}, []int64{-1}, []string(nil), []string{""}, []string{"dog", "\xc0"}, slices.Repeat([]string{letters(32)}, 19), slices.Repeat([]string{"a"}, 31), nodeKeys(t, 5), []impl.Pair(nil), pairsOf("b", "2", "a", "1"), numberPairs(60), numberPairs(61), []impl.Stored(nil), storeOf(leafTexts(0, 5)...), storeOf(leafTexts(0, 401)...), []impl.Stored{{Hash: letters(32), Text: "?"}},
		impl.Signer{}, impl.Signer{Seed: letters(32), Used: 4}, impl.Signature{}, impl.Node{}, longNode("\x01", hash(1)), leafNode("\x01\x02", "v"), leafNode("\x10", "v"), impl.Batch{}, batchOf(9, 9, "a", ""), batchOf(9, 9, slices.Repeat([]string{"a", "1"}, 13)...), impl.Replica{}, impl.ReplicaNew(), replicaOf(t, impl.MaxNumber, someSessions(6), numberPairs(60)), impl.Vote{}, voteOf(t, 2, 0, 9, hash(1)), []impl.Vote(nil), slices.Repeat([]impl.Vote{{}}, 51), impl.Cert{}, certFor(t, 5, 9, hash(1)),
		impl.Client{}, clientOf(t, 1, 0, impl.MaxNumber), []impl.Op(nil), opsOf("", "", "a", "1"), impl.Chunk{}, chunkOf(true, true, "a", "1"), impl.Import{}, importOf(hash(1), pairsOf("a", "1")), impl.Disk{}, diskOf(filesOf("base", "?"), appendOp("log", "x")), diskOf(filesOf("log", "?"), manyOps(200)...), impl.Disk{Live: filesOf("a", "1")}, impl.DOp{}, removeOp("nothing"), appendOp("base", "x"), impl.Act{}, logAct(impl.Batch{}), []impl.Act(nil), []impl.Act{{Kind: 9}, openAct(0)},
	}
	others := map[reflect.Type][]any{}
	for _, other := range list {
		others[reflect.TypeOf(other)] = append(others[reflect.TypeOf(other)], other)
	}
	return others
}

// roomy: a copy that shares nothing, each list of which has room for two more behind it, with something in it.
func roomy(v reflect.Value) reflect.Value {
	out := reflect.New(v.Type()).Elem()
	switch v.Kind() {
	case reflect.Slice:
		if v.IsNil() {
			return out
		}
		out.Set(reflect.MakeSlice(v.Type(), v.Len()+2, v.Len()+2))
		fillJunk(out)
		for i := range v.Len() {
			out.Index(i).Set(roomy(v.Index(i)))
		}
		out.SetLen(v.Len())
	case reflect.Struct:
		for i := range v.NumField() {
			out.Field(i).Set(roomy(v.Field(i)))
		}
	default:
		out.Set(v)
	}
	return out
}

// fillJunk writes into all lists, and into the room behind them.
func fillJunk(v reflect.Value) {
	switch v.Kind() {
	case reflect.Slice:
		whole := v.Slice(0, v.Cap())
		for i := range whole.Len() {
			fillJunk(whole.Index(i))
		}
	case reflect.Struct:
		for i := range v.NumField() {
			fillJunk(v.Field(i))
		}
	}
	if !v.CanSet() {
		return
	}
	switch v.Kind() {
	case reflect.String:
		v.SetString("written")
	case reflect.Int64:
		v.SetInt(-777)
	case reflect.Bool:
		v.SetBool(!v.Bool())
	}
}

// same: with room asks also what lies behind lists, up to their capacity; an empty list and nil are the same.
func same(a, b reflect.Value, room bool) bool {
	switch a.Kind() {
	case reflect.Slice:
		if a.Len() != b.Len() {
			return false
		}
		if room {
			if a.Cap() != b.Cap() {
				return false
			}
			a, b = a.Slice(0, a.Cap()), b.Slice(0, b.Cap())
		}
		for i := range a.Len() {
			if !same(a.Index(i), b.Index(i), room) {
				return false
			}
		}
		return true
	case reflect.Struct:
		for i := range a.NumField() {
			if !same(a.Field(i), b.Field(i), room) {
				return false
			}
		}
		return true
	}
	return a.Interface() == b.Interface()
}

func shownValues(list []reflect.Value) string { return fmt.Sprintf("%.300q", fmt.Sprint(list)) }

func allSame(a, b []reflect.Value, room bool) bool {
	return slices.EqualFunc(a, b, func(a, b reflect.Value) bool { return same(a, b, room) })
}

func eachRoomy(list []reflect.Value) []reflect.Value {
	var out []reflect.Value
	for _, v := range list {
		out = append(out, roomy(v))
	}
	return out
}

// memory: where a list lies, the room behind it included.
type memory struct{ from, to uintptr }

func memoryOf(v reflect.Value) []memory {
	var list []memory
	switch v.Kind() {
	case reflect.Slice:
		if v.Cap() > 0 {
			from := v.Pointer()
			list = append(list, memory{from, from + uintptr(v.Cap())*v.Type().Elem().Size()})
		}
		for i := range v.Len() {
			list = append(list, memoryOf(v.Index(i))...)
		}
	case reflect.Struct:
		for i := range v.NumField() {
			list = append(list, memoryOf(v.Field(i))...)
		}
	}
	return list
}

func (a memory) meets(b memory) bool { return a.from < b.to && b.from < a.to }

func TestSameCalls(t *testing.T) {
	others := otherArgs(t)
	for _, c := range ordinaryCalls(t) {
		args := valuesOf(c.args)
		wantSameCall(t, c, args)
		for i := range args {
			more := others[args[i].Type()]
			if len(more) == 0 {
				t.Errorf("no other arguments of %v", args[i].Type())
			}
			for _, other := range valuesOf(more) {
				changed := slices.Clone(args)
				changed[i] = other
				wantSameCall(t, c, changed)
			}
		}
	}
}

func valuesOf(list []any) []reflect.Value {
	var out []reflect.Value
	for _, v := range list {
		out = append(out, reflect.ValueOf(v))
	}
	return out
}

// wantSameCall calls twice, then writes into the first answer and once more into the arguments.
func wantSameCall(t *testing.T, c oneCall, args []reflect.Value) {
	t.Helper()
	f, shown := reflect.ValueOf(c.f), shownValues(args)
	given, kept := eachRoomy(args), eachRoomy(args)
	answer := f.Call(given)
	first := eachRoomy(answer)
	again := f.Call(given)
	if !allSame(first, again, false) || !allSame(first, answer, false) {
		t.Errorf("%s of %s: %s, then %s", c.name, shown, shownValues(first), shownValues(again))
	}
	var lists []memory
	for _, v := range answer {
		lists = append(lists, memoryOf(v)...)
	}
	for i, a := range lists {
		if slices.ContainsFunc(lists[:i], a.meets) {
			t.Errorf("%s of %s: two lists of its answer share memory", c.name, shown)
		}
	}
	for _, v := range answer {
		fillJunk(v)
	}
	if !allSame(given, kept, true) {
		t.Errorf("%s of %s: writes into an argument, or its answer shares memory with one", c.name, shown)
	}
	for _, v := range given {
		fillJunk(v)
	}
	if !allSame(first, again, false) {
		t.Errorf("%s of %s: its answer shares memory with an argument or with another answer", c.name, shown)
	}
	if later := f.Call(eachRoomy(args)); !allSame(first, later, false) {
		t.Errorf("%s of %s: %s, and once something was written into answer and arguments %s", c.name, shown, shownValues(first), shownValues(later))
	}
}

// Nothing is kept from one call to another, and calls at the same time do not see each other.
func TestCallsInEachOrder(t *testing.T) {
	calls := ordinaryCalls(t)
	call := func(c oneCall) []reflect.Value { return reflect.ValueOf(c.f).Call(valuesOf(c.args)) }
	var first [][]reflect.Value
	for _, c := range calls {
		first = append(first, call(c))
	}
	for i, c := range slices.Backward(calls) {
		if !allSame(call(c), first[i], false) {
			t.Errorf("%s answers something else in another order of calls", c.name)
		}
	}
	wrong := make([][]string, 4)
	var wait sync.WaitGroup
	for worker := range wrong {
		wait.Go(func() {
			for n := range calls {
				at := (n + 7*worker) % len(calls)
				if !allSame(call(calls[at]), first[at], false) {
					wrong[worker] = append(wrong[worker], calls[at].name)
				}
			}
		})
	}
	wait.Wait()
	for _, names := range wrong {
		for _, name := range names {
			t.Errorf("%s answers something else when others are called at the same time", name)
		}
	}
}

// The list above has each function of the program, and nothing else.
func TestEachFunctionIsCalled(t *testing.T) {
	called := map[string]bool{}
	for _, c := range ordinaryCalls(t) {
		called[c.name] = true
	}
	files, err := filepath.Glob("../impl/*.go")
	if err != nil || len(files) == 0 {
		t.Fatal("no program", err)
	}
	exported := map[string]bool{}
	for _, name := range files {
		file, err := parser.ParseFile(token.NewFileSet(), name, nil, 0)
		if err != nil {
			t.Fatal(err)
		}
		for _, d := range file.Decls {
			if f, ok := d.(*ast.FuncDecl); ok && f.Recv == nil && f.Name.IsExported() {
				exported[f.Name.Name] = true
			}
		}
	}
	if got, want := slices.Sorted(maps.Keys(called)), slices.Sorted(maps.Keys(exported)); !slices.Equal(got, want) {
		t.Errorf("called: %v; want %v", got, want)
	}
}
