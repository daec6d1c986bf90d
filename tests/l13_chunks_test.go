package tests

import (
	"fmt"
	"math"
	"math/rand"
	"slices"
	"strings"
	"testing"

	"loop.example/g00226/impl"
)

// chunkOf: keys and values by turns.
func chunkOf(first, last bool, texts ...string) impl.Chunk {
	return impl.Chunk{First: first, Last: last, Pairs: pairsOf(texts...)}
}

func chunkWith(first, last bool, pairs []impl.Pair) impl.Chunk {
	return impl.Chunk{First: first, Last: last, Pairs: pairs}
}

// importOf: one that is not Done.
func importOf(root string, pairs []impl.Pair) impl.Import {
	return impl.Import{Root: root, Pairs: pairs}
}

// doneWith: one that is Done, with the root of its pairs.
func doneWith(t *testing.T, pairs []impl.Pair) impl.Import {
	t.Helper()
	return impl.Import{Root: trieRoot(t, pairs), Pairs: pairs, Done: true}
}

func sameChunk(a, b impl.Chunk) bool {
	return a.First == b.First && a.Last == b.Last && slices.Equal(a.Pairs, b.Pairs)
}

func sameImport(a, b impl.Import) bool {
	return a.Root == b.Root && slices.Equal(a.Pairs, b.Pairs) && a.Done == b.Done
}

func shownChunk(c impl.Chunk) string {
	return fmt.Sprintf("chunk (First %v, Last %v) of %d pairs %.20q", c.First, c.Last, len(c.Pairs), c.Pairs)
}

func shownImport(m impl.Import) string {
	return fmt.Sprintf("import (Root %.4x, Done %v) of %d pairs %.20q", m.Root, m.Done, len(m.Pairs), m.Pairs)
}

// pairsWithRoom: the pairs with spare room behind them, and all of that room.
func pairsWithRoom(list []impl.Pair) (copied, room []impl.Pair) {
	room = append(slices.Clone(list), pairsOf("spare", "", "spare", "")...)
	return room[:len(list)], room
}

// overwritePairs writes into them, and into the room behind them.
func overwritePairs(list []impl.Pair) {
	all := list[:cap(list)]
	for i := range all {
		all[i] = impl.Pair{Key: "written"}
	}
}

// sizes: of pairs, about the edges of chunks.
func sizes() []int { return []int{0, 1, 2, 3, 7, 8, 9, 15, 16, 17, 24, 56, 59, 60} }

// plainChunks goes pair by pair: a chunk that is full is left behind when one more comes.
func plainChunks(list []impl.Pair, most int) []impl.Chunk {
	chunks := []impl.Chunk{{First: true}}
	for _, pair := range list {
		if len(chunks[len(chunks)-1].Pairs) == most {
			chunks = append(chunks, impl.Chunk{})
		}
		end := &chunks[len(chunks)-1]
		end.Pairs = append(end.Pairs, pair)
	}
	chunks[len(chunks)-1].Last = true
	return chunks
}

// wantChunks: each of them whole, and in memory of its own.
func wantChunks(t *testing.T, list []impl.Pair, most int64, want ...impl.Chunk) {
	t.Helper()
	given, room := pairsWithRoom(list)
	kept := slices.Clone(room)
	got, ok := impl.ChunksOf(given, most)
	if !ok || !slices.EqualFunc(got, want, sameChunk) {
		t.Errorf("ChunksOf of %d pairs by %d: %.200v, %v", len(list), most, got, ok)
		return
	}
	for i, chunk := range got {
		if !sameChunk(chunk, want[i]) {
			t.Errorf("ChunksOf of %d pairs by %d: chunk %d shares memory with one ahead", len(list), most, i)
		}
		overwritePairs(chunk.Pairs)
	}
	if !slices.Equal(room, kept) {
		t.Errorf("ChunksOf of %d pairs by %d: shares memory or writes into its argument", len(list), most)
	}
}

func wantNoChunks(t *testing.T, list []impl.Pair, most int64) {
	t.Helper()
	given, room := pairsWithRoom(list)
	kept := slices.Clone(room)
	if got, ok := impl.ChunksOf(given, most); ok || len(got) != 0 || !slices.Equal(room, kept) {
		t.Errorf("ChunksOf of %d pairs %.40q by %d: %.200v, %v", len(list), list, most, got, ok)
	}
}

func TestKnownChunks(t *testing.T) {
	list := pairsOf("a", "1", "b", "2", "c", "3", "d", "4", "e", "5")
	wantChunks(t, list, 1, chunkOf(true, false, "a", "1"), chunkOf(false, false, "b", "2"), chunkOf(false, false, "c", "3"), chunkOf(false, false, "d", "4"), chunkOf(false, true, "e", "5"))
	wantChunks(t, list, 2, chunkOf(true, false, "a", "1", "b", "2"), chunkOf(false, false, "c", "3", "d", "4"), chunkOf(false, true, "e", "5"))
	wantChunks(t, list, 3, chunkOf(true, false, "a", "1", "b", "2", "c", "3"), chunkOf(false, true, "d", "4", "e", "5"))
	wantChunks(t, list, 4, chunkOf(true, false, "a", "1", "b", "2", "c", "3", "d", "4"), chunkOf(false, true, "e", "5"))
	for most := int64(5); most <= 8; most++ {
		wantChunks(t, list, most, chunkWith(true, true, list))
	}
	wantChunks(t, list[:4], 2, chunkOf(true, false, "a", "1", "b", "2"), chunkOf(false, true, "c", "3", "d", "4"))
	wantChunks(t, list[:2], 1, chunkOf(true, false, "a", "1"), chunkOf(false, true, "b", "2"))
	for most := int64(1); most <= 8; most++ {
		wantChunks(t, nil, most, chunkOf(true, true))
		wantChunks(t, []impl.Pair{}, most, chunkOf(true, true))
		wantChunks(t, list[:1], most, chunkOf(true, true, "a", "1"))
		wantChunks(t, pairsOf("", "\x00"), most, chunkOf(true, true, "", "\x00"))
	}
}

func TestChunksOfEachSize(t *testing.T) {
	if impl.MaxChunk != 8 {
		t.Fatalf("MaxChunk: %d", impl.MaxChunk)
	}
	for most := 1; most <= 8; most++ {
		for _, n := range sizes() {
			wantChunks(t, numberPairs(n), int64(most), plainChunks(numberPairs(n), most)...)
			got, _ := impl.ChunksOf(numberPairs(n), int64(most))
			if len(got) != max(1, (n+most-1)/most) {
				t.Errorf("ChunksOf of %d pairs by %d: %d chunks", n, most, len(got))
			}
			var all []impl.Pair
			for i, chunk := range got {
				all = append(all, chunk.Pairs...)
				if chunk.First != (i == 0) || chunk.Last != (i == len(got)-1) || !chunk.Last && len(chunk.Pairs) != most {
					t.Errorf("ChunksOf of %d pairs by %d: chunk %d is a %s", n, most, i, shownChunk(chunk))
				}
			}
			if !slices.Equal(all, numberPairs(n)) {
				t.Errorf("ChunksOf of %d pairs by %d: %.80q together", n, most, all)
			}
		}
		for _, list := range pairSets() {
			wantChunks(t, list, int64(most), plainChunks(list, most)...)
		}
	}
}

func TestNoChunks(t *testing.T) {
	for _, most := range []int64{-1, 0, 9, 10, -8, 60, 1<<32 + 1, -1<<32 + 1, math.MaxInt64, math.MinInt64} {
		for _, n := range sizes() {
			wantNoChunks(t, numberPairs(n), most)
		}
		wantNoChunks(t, numberPairs(61), most)
	}
	for _, most := range []int64{1, 2, 7, 8} {
		wantNoChunks(t, numberPairs(61), most)
		for _, list := range wrongPairs() {
			wantNoChunks(t, list, most)
		}
	}
}

func TestNewImports(t *testing.T) {
	for _, root := range []string{impl.EmptyRoot(), checkRoot(), hash(3), strings.Repeat("\x00", 32), strings.Repeat("\xff", 32), letters(32)} {
		m, ok := impl.ImportNew(root)
		if !ok || !sameImport(m, importOf(root, nil)) || !impl.ImportOk(m) {
			t.Errorf("ImportNew of %x: an %s, %v", root, shownImport(m), ok)
		}
	}
	for _, n := range []int{0, 1, 31, 33, 64, 1000} {
		if m, ok := impl.ImportNew(letters(n)); ok || !sameImport(m, impl.Import{}) {
			t.Errorf("ImportNew of %d bytes: an %s, %v", n, shownImport(m), ok)
		}
	}
}

// wrongImports: not right, one way or another.
func wrongImports(t *testing.T) []impl.Import {
	t.Helper()
	pairs := pairsOf("a", "1", "b", "2")
	root := trieRoot(t, pairs)
	var list []impl.Import
	for _, text := range append(wrongRoots(), "", root[:31], root+"\x00") {
		for _, done := range []bool{false, true} {
			list = append(list, impl.Import{Root: text, Done: done}, impl.Import{Root: text, Pairs: pairs, Done: done})
		}
	}
	for _, wrong := range wrongPairs() {
		for _, done := range []bool{false, true} {
			list = append(list, impl.Import{Root: root, Pairs: wrong, Done: done}, impl.Import{Root: impl.EmptyRoot(), Pairs: wrong, Done: done}, impl.Import{Pairs: wrong, Done: done})
		}
	}
	for _, other := range []string{hash(3), impl.EmptyRoot(), trieRoot(t, pairs[:1]), trieRoot(t, pairs[1:]), turned(root, 0), turned(root, 31)} {
		list = append(list, impl.Import{Root: other, Pairs: pairs, Done: true})
	}
	return append(list, impl.Import{Root: root, Done: true}, impl.Import{Root: hash(3), Done: true}, impl.Import{Root: root, Pairs: pairs[:1], Done: true}, impl.Import{Root: root, Pairs: pairsOf("a", "1", "b", "2", "c", "3"), Done: true}, impl.Import{Root: root, Pairs: pairsOf("a", "1", "b", "3"), Done: true})
}

// wantImportOk asks with spare room, which is left as it is.
func wantImportOk(t *testing.T, m impl.Import, want bool) {
	t.Helper()
	given, room := pairsWithRoom(m.Pairs)
	kept := slices.Clone(room)
	if right := impl.ImportOk(impl.Import{Root: m.Root, Pairs: given, Done: m.Done}); right != want || !slices.Equal(room, kept) {
		t.Errorf("ImportOk of an %s: %v", shownImport(m), right)
	}
}

func TestImportsThatAreRight(t *testing.T) {
	wantImportOk(t, impl.Import{Root: impl.EmptyRoot(), Done: true}, true)
	wantImportOk(t, impl.Import{}, false)
	wantImportOk(t, impl.Import{Done: true}, false)
	for _, list := range pairSets() {
		wantImportOk(t, doneWith(t, list), true)
		for _, root := range []string{impl.EmptyRoot(), hash(3), trieRoot(t, list), letters(32)} {
			wantImportOk(t, importOf(root, list), true)
		}
		wantImportOk(t, impl.Import{Root: hash(3), Pairs: list, Done: true}, false)
		wantImportOk(t, impl.Import{Root: impl.EmptyRoot(), Pairs: list, Done: true}, len(list) == 0)
	}
	for _, m := range wrongImports(t) {
		wantImportOk(t, m, false)
	}
}

// wantTook: this whole import beside the flag, in memory of its own.
func wantTook(t *testing.T, why string, m impl.Import, c impl.Chunk, want impl.Import, wantOk bool) {
	t.Helper()
	given, room := pairsWithRoom(m.Pairs)
	more, moreRoom := pairsWithRoom(c.Pairs)
	kept, keptMore := slices.Clone(room), slices.Clone(moreRoom)
	wanted := slices.Clone(want.Pairs)
	got, ok := impl.Took(impl.Import{Root: m.Root, Pairs: given, Done: m.Done}, impl.Chunk{First: c.First, Last: c.Last, Pairs: more})
	again, _ := impl.Took(impl.Import{Root: m.Root, Pairs: given, Done: m.Done}, impl.Chunk{First: c.First, Last: c.Last, Pairs: more})
	if ok != wantOk || !sameImport(got, want) {
		t.Errorf("Took, %s: an %s, a %s: an %s, %v; want an %s, %v", why, shownImport(m), shownChunk(c), shownImport(got), ok, shownImport(want), wantOk)
	}
	overwritePairs(got.Pairs)
	if !slices.Equal(room, kept) || !slices.Equal(moreRoom, keptMore) || !slices.Equal(again.Pairs, wanted) {
		t.Errorf("Took, %s: shares memory or writes into an argument", why)
	}
}

// wantNotTook: the import as it is beside false.
func wantNotTook(t *testing.T, why string, m impl.Import, c impl.Chunk) {
	t.Helper()
	wantTook(t, why, m, c, m, false)
}

func TestTookOfWrongImports(t *testing.T) {
	for _, m := range wrongImports(t) {
		for _, c := range []impl.Chunk{{First: true, Last: true}, {}, chunkOf(true, true, "a", "1", "b", "2"), chunkOf(true, false, "a", "1"), chunkOf(false, false, "c", "3"), chunkOf(false, true, "b", "2"), chunkWith(false, false, numberPairs(9))} {
			wantTook(t, "not right", m, c, impl.Import{}, false)
		}
	}
}

func TestTookWhenDone(t *testing.T) {
	for _, list := range pairSets() {
		m := doneWith(t, list)
		for _, first := range []bool{false, true} {
			for _, last := range []bool{false, true} {
				for _, more := range [][]impl.Pair{nil, list[:min(8, len(list))], pairsOf("\xff\xff\xff\xff\xff\xff\xff\xff\xff\xff\xff\xff", "last")} {
					wantNotTook(t, "Done", m, chunkWith(first, last, more))
				}
			}
		}
	}
}

func TestTookOfFirstChunks(t *testing.T) {
	list := pairsOf("a", "1", "b", "2", "c", "3", "d", "4")
	root := trieRoot(t, list)
	none := importOf(root, nil)
	wantTook(t, "First of several", none, chunkWith(true, false, list[:2]), importOf(root, list[:2]), true)
	wantTook(t, "First and Last", none, chunkWith(true, true, list), doneWith(t, list), true)
	wantTook(t, "First, all but not Last", none, chunkWith(true, false, list), importOf(root, list), true)
	wantNotTook(t, "not First without pairs", none, chunkWith(false, false, list[:2]))
	wantNotTook(t, "Last, not First without pairs", none, chunkWith(false, true, list))
	some := importOf(root, list[:2])
	wantTook(t, "not First", some, chunkWith(false, false, list[2:3]), importOf(root, list[:3]), true)
	wantTook(t, "Last", some, chunkWith(false, true, list[2:]), doneWith(t, list), true)
	wantTook(t, "all but not Last", some, chunkWith(false, false, list[2:]), importOf(root, list), true)
	wantNotTook(t, "First with pairs", some, chunkWith(true, false, list[2:]))
	wantNotTook(t, "First and Last with pairs", some, chunkWith(true, true, list[2:]))
	wantNotTook(t, "First once more", some, chunkWith(true, false, list[:2]))
	wantNotTook(t, "First and Last, all of it", some, chunkWith(true, true, list))
}

func TestTookOfEmptyChunks(t *testing.T) {
	list := pairsOf("a", "1", "b", "2")
	empty, root := impl.EmptyRoot(), trieRoot(t, list)
	wantTook(t, "none at all", importOf(empty, nil), impl.Chunk{First: true, Last: true}, doneWith(t, nil), true)
	wantTook(t, "none at all, not nil", importOf(empty, []impl.Pair{}), impl.Chunk{First: true, Last: true, Pairs: []impl.Pair{}}, doneWith(t, nil), true)
	wantNotTook(t, "none of another root", importOf(root, nil), impl.Chunk{First: true, Last: true})
	for _, m := range []impl.Import{importOf(empty, nil), importOf(root, nil), importOf(root, list), importOf(root, list[:1]), importOf(empty, list), importOf(empty, numberPairs(60))} {
		wantNotTook(t, "First alone without pairs", m, impl.Chunk{First: true})
		wantNotTook(t, "Last alone without pairs", m, impl.Chunk{Last: true})
		wantNotTook(t, "neither, without pairs", m, impl.Chunk{})
		if len(m.Pairs) > 0 {
			wantNotTook(t, "First and Last without pairs, behind some", m, impl.Chunk{First: true, Last: true})
		}
	}
}

func TestTookOfFullChunks(t *testing.T) {
	all := numberPairs(60)
	for _, n := range []int{0, 1, 8, 40, 51} {
		root := trieRoot(t, all[:n+8])
		m := importOf(root, all[:n])
		wantTook(t, "8 pairs", m, chunkWith(n == 0, false, all[n:n+8]), importOf(root, all[:n+8]), true)
		wantTook(t, "8 pairs, Last", m, chunkWith(n == 0, true, all[n:n+8]), doneWith(t, all[:n+8]), true)
		over := importOf(trieRoot(t, all[:n+9]), all[:n])
		wantNotTook(t, "9 pairs", over, chunkWith(n == 0, false, all[n:n+9]))
		wantNotTook(t, "9 pairs, Last", over, chunkWith(n == 0, true, all[n:n+9]))
		wantNotTook(t, "all that are left", importOf(trieRoot(t, all), all[:n]), chunkWith(n == 0, true, all[n:]))
	}
	wantNotTook(t, "a thousand pairs", importOf(hash(3), nil), chunkWith(true, false, slices.Repeat(all[:1], 1000)))
}

func TestTookOfPairsThatWouldNotBeRight(t *testing.T) {
	list := pairsOf("b", "1", "d", "2", "d\x00", "3")
	m := importOf(hash(3), list)
	for _, wrong := range []string{"", "a", "b", "b\x00", "c", "cz", "d", "d\x00"} {
		wantNotTook(t, "a key that does not rise", m, chunkOf(false, false, wrong, "x"))
		wantNotTook(t, "a key that does not rise, Last", m, chunkOf(false, true, wrong, "x"))
		wantNotTook(t, "a key that does not rise, ahead of one that does", m, chunkOf(false, false, wrong, "x", "e", "y"))
	}
	wantTook(t, "a key that rises", m, chunkOf(false, false, "d\x00\x00", "x"), importOf(hash(3), pairsOf("b", "1", "d", "2", "d\x00", "3", "d\x00\x00", "x")), true)
	wantTook(t, "a key of 12 bytes, a value of 60", m, chunkOf(false, false, "eeeeeeeeeeee", letters(60)), importOf(hash(3), append(slices.Clone(list), pairsOf("eeeeeeeeeeee", letters(60))...)), true)
	wantNotTook(t, "a key of 13 bytes", m, chunkOf(false, false, "eeeeeeeeeeeee", "x"))
	wantNotTook(t, "a value of 61 bytes", m, chunkOf(false, false, "e", letters(61)))
	wantNotTook(t, "no value", m, chunkOf(false, false, "e", ""))
	wantNotTook(t, "no value, behind another pair", m, chunkOf(false, false, "e", "1", "f", ""))
	wantNotTook(t, "a key twice in one chunk", m, chunkOf(false, false, "e", "1", "e", "1"))
	wantNotTook(t, "keys that fall in one chunk", m, chunkOf(false, false, "f", "1", "e", "1"))
	for _, wrong := range wrongPairs() {
		wantNotTook(t, "wrong pairs", importOf(hash(3), nil), chunkWith(true, false, wrong))
		wantNotTook(t, "wrong pairs, Last", importOf(impl.EmptyRoot(), nil), chunkWith(true, true, wrong))
	}
}

func TestTookOfTooManyPairs(t *testing.T) {
	all := numberPairs(68)
	for n := 53; n <= 60; n++ {
		for more := 1; more <= 8; more++ {
			m, c := importOf(hash(3), all[:n]), chunkWith(false, false, all[n:n+more])
			if n+more <= 60 {
				wantTook(t, "60 pairs or fewer", m, c, importOf(hash(3), all[:n+more]), true)
			} else {
				wantNotTook(t, "more than 60 pairs", m, c)
			}
		}
	}
}

func TestTookOfLastChunks(t *testing.T) {
	list := pairsOf("", "0", "a", "1", "ab", "2", "b", "3", "c", "4")
	root := trieRoot(t, list)
	for n := range len(list) {
		m, c := importOf(root, list[:n]), chunkWith(n == 0, true, list[n:])
		wantTook(t, "the right root", m, c, doneWith(t, list), true)
		for _, other := range []string{hash(3), impl.EmptyRoot(), turned(root, 0), turned(root, 31), trieRoot(t, list[n:]), trieRoot(t, list[:n])} {
			if other != root {
				wantNotTook(t, "another root", importOf(other, list[:n]), c)
				wantTook(t, "another root, not Last", importOf(other, list[:n]), chunkWith(n == 0, false, list[n:]), importOf(other, list), true)
			}
		}
		wantNotTook(t, "a pair too few at the end", m, chunkWith(n == 0, true, list[n:len(list)-1]))
		wantNotTook(t, "a pair too many", m, chunkWith(n == 0, true, append(slices.Clone(list[n:]), pairsOf("d", "5")...)))
		for i := n; i < len(list); i++ {
			wantNotTook(t, "another value", m, chunkWith(n == 0, true, withPair(t, list[n:], list[i].Key, "9")))
			wantNotTook(t, "another key", m, chunkWith(n == 0, true, withPair(t, withPair(t, list[n:], list[i].Key, ""), list[i].Key+"\x00", list[i].Value)))
			wantNotTook(t, "a pair too few", m, chunkWith(n == 0, true, withPair(t, list[n:], list[i].Key, "")))
		}
	}
}

// takenAll: the import behind all chunks, and whether each was taken.
func takenAll(t *testing.T, root string, chunks []impl.Chunk) (impl.Import, bool) {
	t.Helper()
	m, ok := impl.ImportNew(root)
	if !ok {
		t.Fatalf("ImportNew of %x", root)
	}
	all := true
	for _, c := range chunks {
		was := m
		if m, ok = impl.Took(m, c); !ok && !sameImport(m, was) {
			t.Errorf("Took of a %s refuses, and makes an %s of an %s", shownChunk(c), shownImport(m), shownImport(was))
		}
		all = all && ok
	}
	return m, all
}

// wantImported: the nodes that the document's words make of the pairs.
func wantImported(t *testing.T, m impl.Import) {
	t.Helper()
	texts, root := plainTexts(t, m.Pairs)
	given, room := pairsWithRoom(m.Pairs)
	kept := slices.Clone(room)
	nodes, ok := impl.Imported(impl.Import{Root: m.Root, Pairs: given, Done: m.Done})
	if !ok || m.Root != root || !slices.Equal(nodes, storeOf(texts...)) || !slices.Equal(nodes, trieNodes(t, m.Pairs)) {
		t.Errorf("Imported of an %s: %s, %v", shownImport(m), shownStore(nodes), ok)
	}
	clear(nodes)
	again, _ := impl.Imported(impl.Import{Root: m.Root, Pairs: given, Done: m.Done})
	if !slices.Equal(again, storeOf(texts...)) || !slices.Equal(room, kept) {
		t.Errorf("Imported of an %s: shares memory or writes into its argument", shownImport(m))
	}
}

func wantNotImported(t *testing.T, m impl.Import) {
	t.Helper()
	if nodes, ok := impl.Imported(m); ok || len(nodes) != 0 {
		t.Errorf("Imported of an %s: %s, %v", shownImport(m), shownStore(nodes), ok)
	}
}

func TestImported(t *testing.T) {
	for _, list := range pairSets() {
		wantImported(t, doneWith(t, list))
		wantNotImported(t, importOf(trieRoot(t, list), list))
		wantNotImported(t, importOf(hash(3), list))
	}
	wantNotImported(t, importOf(impl.EmptyRoot(), nil))
	if nodes, ok := impl.Imported(doneWith(t, nil)); !ok || len(nodes) != 0 {
		t.Errorf("Imported of no pairs: %s, %v", shownStore(nodes), ok)
	}
	for _, m := range wrongImports(t) {
		wantNotImported(t, m)
	}
}

// The digests of all nodes were worked out apart from the program.
func TestKnownImports(t *testing.T) {
	for _, c := range []struct {
		list []impl.Pair
		root string
		all  string
	}{
		{nil, "76be8b528d0075f7aae98d6fa57a6d3c83ae480a8469e668d7b0af968995ac71", "e3b0c44298fc1c149afbf4c8996fb92427ae41e4649b934ca495991b7852b855"},
		{pairsOf("a", "1"), "92306af84c4f88a8b85fbc9ed3afa02aa18e4d01e62484691e1dd7d63ba20b8b", "d5a38a3731c3444e1133b44407173e7f2bfe5105ecad271eee6fc47c70778d57"},
		{pairsOf("do", "verb", "dog", "puppy", "doge", "coin", "horse", "stallion"), "116e164525ef2fa7d4da69dc9300748b2082c52a4f9c57c77b03ce992642a63c", "eac862b8476bee292c921eff10465e8b38782cf8576ba810a1353be8c2e8143d"},
		{numberPairs(60), "004754bd1e2786d761bff5dbf9a73dd04a538b4818b09334dc0a5d5f7d24db0a", "c5947882da901a11b6132be96b702e876feb227b4922c752a74a358af22950b4"},
		{deepPairs(), "e0f32cdbc88c7f7f965f4361c3ad6bf76b56dbf7bf551810347f23d72aea636a", "5861aa11d0fcc100368097100bae68af86f5ecafc049b8c09d6622f35aa42c39"},
	} {
		for most := 1; most <= 8; most++ {
			root := trieRoot(t, c.list)
			m, ok := takenAll(t, root, plainChunks(c.list, most))
			nodes, fine := impl.Imported(m)
			all := ""
			for _, node := range nodes {
				all += node.Hash + node.Text
			}
			if !ok || !m.Done || !fine || impl.Hex(m.Root) != c.root || impl.Hex(librarySum(all)) != c.all {
				t.Errorf("%d pairs by %d: an %s, %v, %x, %v", len(c.list), most, shownImport(m), ok, librarySum(all), fine)
			}
		}
	}
}

func TestPairsInChunksAreImported(t *testing.T) {
	lists := pairSets()
	for _, n := range sizes() {
		lists = append(lists, numberPairs(n))
	}
	source := rand.New(rand.NewSource(13))
	for range 40 {
		lists = append(lists, randomPairs(source))
	}
	for _, list := range lists {
		want := doneWith(t, list)
		for most := int64(1); most <= 8; most++ {
			chunks, ok := impl.ChunksOf(list, most)
			if !ok {
				t.Fatalf("ChunksOf of %.40q by %d", list, most)
			}
			m, _ := impl.ImportNew(want.Root)
			for i, c := range chunks {
				then := importOf(want.Root, list[:min(len(list), (i+1)*int(most))])
				then.Done = i == len(chunks)-1
				wantTook(t, "in order", m, c, then, true)
				if wantImportOk(t, then, true); !then.Done {
					wantNotImported(t, then)
				}
				m, _ = impl.Took(m, c)
			}
			if !sameImport(m, want) {
				t.Errorf("%.40q by %d: an %s", list, most, shownImport(m))
			}
		}
		wantImported(t, want)
	}
	// Chunks need not be of one size.
	for range 60 {
		list := randomPairs(source)
		var chunks []impl.Chunk
		for from := 0; from < len(list) || from == 0; {
			to := min(len(list), from+1+source.Intn(8))
			chunks = append(chunks, chunkWith(from == 0, to == len(list), list[from:to]))
			from = max(to, 1)
		}
		if m, ok := takenAll(t, trieRoot(t, list), chunks); !ok || !sameImport(m, doneWith(t, list)) {
			t.Errorf("%.40q in unlike chunks: an %s, %v", list, shownImport(m), ok)
		}
	}
}

// wantSpoilt: these chunks are refused or end without the root, and what was taken is taken no other way.
func wantSpoilt(t *testing.T, why string, list []impl.Pair, chunks []impl.Chunk) {
	t.Helper()
	m, all := takenAll(t, trieRoot(t, list), chunks)
	if all && m.Done {
		t.Errorf("%s: an %s of %d chunks", why, shownImport(m), len(chunks))
	}
	if m.Done && !slices.Equal(m.Pairs, list) {
		t.Errorf("%s: Done with %.60q; want %.60q", why, m.Pairs, list)
	}
	if m.Done {
		wantImported(t, m)
	} else {
		wantNotImported(t, m)
	}
}

func TestChunksLeftOutSentTwiceOrInAnotherOrder(t *testing.T) {
	for _, list := range [][]impl.Pair{pairsOf("a", "1", "b", "2", "c", "3", "d", "4"), numberPairs(17), numberPairs(60), deepPairs(), somePairs(32)} {
		for most := 1; most <= 8; most++ {
			chunks := plainChunks(list, most)
			if len(chunks) > 17 {
				continue
			}
			for i := range chunks {
				without := slices.Delete(slices.Clone(chunks), i, i+1)
				wantSpoilt(t, "left out", list, without)
				for j := range chunks {
					wantSpoilt(t, "sent twice", list, slices.Insert(slices.Clone(chunks), j, chunks[i]))
					if j != i {
						wantSpoilt(t, "in another order", list, slices.Insert(slices.Clone(without), j, chunks[i]))
					}
				}
				wantSpoilt(t, "sent twice, at the end", list, append(slices.Clone(chunks), chunks[i]))
			}
		}
	}
	list := pairsOf("a", "1", "b", "2", "c", "3", "d", "4", "e", "5")
	chunks := plainChunks(list, 1)
	for _, order := range orders(chunks) {
		if !slices.EqualFunc(order, chunks, sameChunk) {
			wantSpoilt(t, "in another order", list, order)
		}
	}
}

// A refusal leaves the import as it is, so that the right chunk can still come.
func TestImportsGoOnBehindARefusal(t *testing.T) {
	list := numberPairs(60)
	source := rand.New(rand.NewSource(14))
	for most := 1; most <= 8; most++ {
		chunks := plainChunks(list, most)
		m, _ := impl.ImportNew(trieRoot(t, list))
		for i, c := range chunks {
			for range 4 {
				place := source.Intn(len(chunks))
				wrong := chunks[place]
				switch {
				case place == i:
					wrong = chunkWith(c.First, c.Last, append(slices.Clone(c.Pairs), c.Pairs[0]))
				case place > i && place < len(chunks)-1 && i > 0:
					wrong.First = true
				}
				wantNotTook(t, "in between", m, wrong)
				m, _ = impl.Took(m, wrong)
			}
			m, _ = impl.Took(m, c)
		}
		if !sameImport(m, doneWith(t, list)) {
			t.Errorf("by %d, with refusals in between: an %s", most, shownImport(m))
		}
	}
}

// plainTook goes by the document's words, with the root of a trie written apart.
func plainTook(t *testing.T, m impl.Import, c impl.Chunk) (impl.Import, bool) {
	t.Helper()
	all := append(slices.Clone(m.Pairs), c.Pairs...)
	refused := m.Done ||
		c.First && len(m.Pairs) > 0 || !c.First && len(m.Pairs) == 0 ||
		len(c.Pairs) > 8 || len(c.Pairs) == 0 && !(c.First && c.Last) ||
		!impl.PairsOk(all)
	if refused || c.Last && plainTrie(t, all, map[string]string{}) != m.Root {
		return m, false
	}
	return impl.Import{Root: m.Root, Pairs: all, Done: c.Last}, true
}

func TestTookByTheWords(t *testing.T) {
	source := rand.New(rand.NewSource(15))
	taken, done := 0, 0
	for range 3000 {
		list := numberPairs(source.Intn(1 + source.Intn(60)))
		m, _ := impl.ImportNew(trieRoot(t, list))
		for range 1 + source.Intn(12) {
			from := min(len(m.Pairs), len(list))
			if source.Intn(4) == 0 {
				from = source.Intn(len(list) + 1)
			}
			to := min(len(list), from+source.Intn(10))
			c := chunkWith(from == 0, to == len(list), slices.Clone(list[from:to]))
			switch source.Intn(12) {
			case 0:
				c.First = !c.First
			case 1:
				c.Last = !c.Last
			case 2:
				c.Pairs = append(c.Pairs, pairsOf("x", "1")...)
			}
			want, ok := plainTook(t, m, c)
			wantTook(t, "by the words", m, c, want, ok)
			if m, _ = impl.Took(m, c); ok {
				taken++
			}
			if m.Done {
				done++
				wantImportOk(t, m, true)
			}
		}
	}
	if taken < 1000 || done < 300 {
		t.Errorf("%d chunks were taken, and %d times an import was Done: too few to tell", taken, done)
	}
}

// What was answered is not touched by a later call, nor by whoever writes into an argument.
func TestImportsShareNoMemory(t *testing.T) {
	list, _ := pairsWithRoom(pairsOf("a", "1", "b", "2", "c", "3", "d", "4"))
	kept := slices.Clone(list)
	root := trieRoot(t, list)
	chunks, _ := impl.ChunksOf(list, 2)
	others, _ := impl.ChunksOf(list, 2)
	none, _ := impl.ImportNew(root)
	first, _ := impl.Took(none, chunks[0])
	refused, _ := impl.Took(first, chunks[0])
	left, _ := impl.Took(first, chunkOf(false, false, "x", "1"))
	right, _ := impl.Took(first, chunkOf(false, false, "y", "2"))
	whole, _ := impl.Took(first, chunks[1])
	again, _ := impl.Took(whole, chunks[1])
	overwritePairs(list)
	for _, c := range chunks {
		overwritePairs(c.Pairs)
	}
	for i, got := range [][]impl.Pair{others[0].Pairs, others[1].Pairs, first.Pairs, refused.Pairs, left.Pairs, right.Pairs, whole.Pairs, again.Pairs} {
		want := [][]impl.Pair{kept[:2], kept[2:], kept[:2], kept[:2], append(slices.Clone(kept[:2]), pairsOf("x", "1")...), append(slices.Clone(kept[:2]), pairsOf("y", "2")...), kept, kept}[i]
		if !slices.Equal(got, want) {
			t.Errorf("answer %d: %.40q; want %.40q", i, got, want)
		}
		overwritePairs(got)
	}
}
