package tests

import (
	"math/rand"
	"slices"
	"strings"
	"testing"

	"loop.example/g00226/impl"
)

func proofOf(t *testing.T, list []impl.Stored, root, key string) []string {
	t.Helper()
	given, room := withRoom(list)
	kept := slices.Clone(room)
	proof, ok := impl.ProofOf(given, root, key)
	if !ok {
		t.Fatalf("ProofOf of %d nodes, %x, %q refuses", len(list), root, key)
	}
	if !slices.Equal(room, kept) {
		t.Error("ProofOf writes into its argument")
	}
	return proof
}

func wantNoProof(t *testing.T, why string, list []impl.Stored, root, key string) {
	t.Helper()
	if proof, ok := impl.ProofOf(list, root, key); ok || len(proof) != 0 {
		t.Errorf("ProofOf, %s: %d nodes, %x, %q: %.40q, %v", why, len(list), root, key, proof, ok)
	}
}

func wantShown(t *testing.T, root, key string, proof []string, code int64, value string) {
	t.Helper()
	given, room := withSpare(proof)
	kept := slices.Clone(room)
	if c, v := impl.CheckProof(root, key, given); c != code || v != value {
		t.Errorf("CheckProof of %x, %q, %d texts: %d, %.40q; want %d, %.40q", root, key, len(proof), c, v, code, value)
	}
	if !slices.Equal(room, kept) {
		t.Error("CheckProof writes into its argument")
	}
}

func wantBad(t *testing.T, why, root, key string, proof []string) {
	t.Helper()
	if code, value := impl.CheckProof(root, key, proof); code != impl.PfBad || value != "" {
		t.Errorf("CheckProof, %s: %x, %q, %d texts: %d, %.40q", why, root, key, len(proof), code, value)
	}
}

// shownAs: the code of a proof that says what is got.
func shownAs(t *testing.T, list []impl.Stored, root, key string) (int64, string) {
	t.Helper()
	switch code, value := impl.Get(list, root, key); code {
	case impl.GtFound:
		return impl.PfHas, value
	case impl.GtNone:
		return impl.PfAbsent, ""
	}
	return impl.PfBad, ""
}

// plainWay: the texts on the way to a key, by the document's words.
func plainWay(t *testing.T, list []impl.Stored, root, key string) []string {
	t.Helper()
	texts, path := []string{}, ""
	for _, b := range []byte(key) {
		path += oneByte(int(b/16)) + oneByte(int(b%16))
	}
	for hash := root; hash != "" && root != impl.EmptyRoot(); {
		place := slices.IndexFunc(list, func(stored impl.Stored) bool { return stored.Hash == hash })
		node, _ := impl.ReadNode(list[place].Text)
		texts, hash = append(texts, list[place].Text), ""
		switch rest, goesOn := strings.CutPrefix(path, node.Path); {
		case node.Kind == impl.NdLong && goesOn:
			hash, path = node.Kids[0], rest
		case node.Kind == impl.NdBranch && path != "":
			hash, path = node.Kids[path[0]], path[1:]
		}
	}
	return texts
}

// keysAsked: keys that are there and such that are not, of at most 12 bytes.
func keysAsked(pairs []impl.Pair) []string {
	keys := []string{"", "a", "\x00", "\xff", letters(12)}
	for _, pair := range pairs[:min(len(pairs), 10)] {
		for _, key := range append(keysBeside(pair.Key), pair.Key) {
			if len(key) <= impl.MaxKey {
				keys = append(keys, key)
			}
		}
	}
	slices.Sort(keys)
	return slices.Compact(keys)
}

// The digests were worked out apart from the program.
func TestKnownProofs(t *testing.T) {
	pairs := pairsOf("", "root", "do", "verb", "dog", "puppy", "doge", "coin", "horse", "stallion")
	list, root := trieNodes(t, pairs), trieRoot(t, pairs)
	for _, c := range []struct {
		key, value   string
		count, bytes int
		all          string
	}{
		{"", "root", 1, 54, "24e87a564854ef3fd118611057c27a6cd793fd0a418cf7961f11c807f48e8254"},
		{"do", "verb", 4, 228, "e43811693650fc39066e6a1b107ea9e9528daa1b94e1556704deb8c52fed9ec2"},
		{"dog", "puppy", 6, 318, "d55d9108bbd1f127035d94702672b797b46a35d01229cfafd5da06eaa1cda6cb"},
		{"doge", "coin", 7, 325, "5920a238672a26c903927c76bcec149ba4bfd341b75caa51a757a5fdc3c0733d"},
		{"horse", "stallion", 3, 153, "2c0977e17a9308c3685c6ecabcd1351b62d57aea908cddbfa407ee51e7dec487"},
		{"d", "", 3, 174, "2aa08634d555c67e8a7ac4873c369ce555c3725f15bf885f5f8a840f5f5c7b2c"},
		{"dig", "", 3, 174, "2aa08634d555c67e8a7ac4873c369ce555c3725f15bf885f5f8a840f5f5c7b2c"},
		{"dot", "", 4, 228, "e43811693650fc39066e6a1b107ea9e9528daa1b94e1556704deb8c52fed9ec2"},
		{"dogs", "", 6, 318, "d55d9108bbd1f127035d94702672b797b46a35d01229cfafd5da06eaa1cda6cb"},
		{"doges", "", 7, 325, "5920a238672a26c903927c76bcec149ba4bfd341b75caa51a757a5fdc3c0733d"},
		{"hors", "", 3, 153, "2c0977e17a9308c3685c6ecabcd1351b62d57aea908cddbfa407ee51e7dec487"},
		{"horses", "", 3, 153, "2c0977e17a9308c3685c6ecabcd1351b62d57aea908cddbfa407ee51e7dec487"},
		{"house", "", 3, 153, "2c0977e17a9308c3685c6ecabcd1351b62d57aea908cddbfa407ee51e7dec487"},
		{"a", "", 2, 137, "19428018382ca02bb404e05a960aa808bb68c677298ce5f321ca3b0465367a5a"},
		{"\xff", "", 1, 54, "24e87a564854ef3fd118611057c27a6cd793fd0a418cf7961f11c807f48e8254"},
		{"e", "", 2, 137, "19428018382ca02bb404e05a960aa808bb68c677298ce5f321ca3b0465367a5a"},
	} {
		proof := proofOf(t, list, root, c.key)
		if len(proof) != c.count || impl.Hex(librarySum(strings.Join(proof, ""))) != c.all {
			t.Errorf("ProofOf of %q: %q", c.key, proof)
		}
		if n := impl.ProofBytes(proof); n != int64(c.bytes) {
			t.Errorf("ProofBytes of %q: %d", c.key, n)
		}
		if c.value == "" {
			wantShown(t, root, c.key, proof, impl.PfAbsent, "")
		} else {
			wantShown(t, root, c.key, proof, impl.PfHas, c.value)
		}
	}
}

func TestProofsOfEveryKey(t *testing.T) {
	lists := pairSets()
	source := rand.New(rand.NewSource(10))
	for range 10 {
		lists = append(lists, randomPairs(source))
	}
	for _, pairs := range lists {
		list, root := trieNodes(t, pairs), trieRoot(t, pairs)
		for _, key := range keysAsked(pairs) {
			proof := proofOf(t, list, root, key)
			if way := plainWay(t, list, root, key); !slices.Equal(proof, way) {
				t.Errorf("ProofOf of %.40q, %q: %.60q; want %.60q", pairs, key, proof, way)
			}
			code, value := shownAs(t, list, root, key)
			wantShown(t, root, key, proof, code, value)
			if in := valueIn(pairs, key); in != value || (code == impl.PfHas) != (in != "") {
				t.Errorf("%q shows %d, %q; the pairs have %q", key, code, value, in)
			}
			if n, ok := impl.Agrees(list, proof); !ok || n != int64(len(proof)) {
				t.Errorf("Agrees of ProofOf %q: %d, %v", key, n, ok)
			}
		}
	}
}

func TestProofsOfEmptyRoot(t *testing.T) {
	empty := impl.EmptyRoot()
	pairs := pairsOf("do", "verb", "dog", "puppy")
	whole := trieNodes(t, pairs)
	for _, key := range []string{"", "a", "do", letters(12)} {
		for _, list := range [][]impl.Stored{nil, {}, whole} {
			if proof, ok := impl.ProofOf(list, empty, key); !ok || len(proof) != 0 {
				t.Errorf("ProofOf of EmptyRoot, %q: %q, %v", key, proof, ok)
			}
		}
		wantShown(t, empty, key, nil, impl.PfAbsent, "")
		wantShown(t, empty, key, []string{}, impl.PfAbsent, "")
		for _, text := range []string{"", "\x80", "\xc0", whole[0].Text, leafItem(t, "", "1")} {
			wantBad(t, "EmptyRoot with a text", empty, key, []string{text})
			wantBad(t, "EmptyRoot with two texts", empty, key, []string{text, text})
		}
	}
	for _, key := range []string{letters(13), letters(1000)} {
		wantNoProof(t, "a long key", whole, empty, key)
		wantNoProof(t, "a long key", nil, empty, key)
		wantBad(t, "a long key", empty, key, nil)
	}
	// EmptyRoot says that there is nothing, but only at the beginning of a way.
	toEmpty := listOf(t, "\x16", empty)
	list := storeOf(toEmpty)
	wantNoProof(t, "EmptyRoot below", list, librarySum(toEmpty), "d")
	wantBad(t, "EmptyRoot below", librarySum(toEmpty), "d", []string{toEmpty})
	wantBad(t, "EmptyRoot below", librarySum(toEmpty), "d", []string{toEmpty, "\x80"})
	wantShown(t, librarySum(toEmpty), "t", proofOf(t, list, librarySum(toEmpty), "t"), impl.PfAbsent, "")
}

func TestProofsWithANodeTakenOut(t *testing.T) {
	for _, pairs := range [][]impl.Pair{pairSets()[3], pairSets()[4], pairSets()[5], pairSets()[8], deepPairs()} {
		list, root := trieNodes(t, pairs), trieRoot(t, pairs)
		for _, key := range keysAsked(pairs) {
			proof := proofOf(t, list, root, key)
			for i, stored := range list {
				some := slices.Delete(slices.Clone(list), i, i+1)
				if slices.Contains(proof, stored.Text) {
					wantNoProof(t, "a node taken out on the way", some, root, key)
				} else if other := proofOf(t, some, root, key); !slices.Equal(other, proof) {
					t.Errorf("ProofOf of %q without a node beside the way: %.60q", key, other)
				}
			}
			// The nodes of the proof are all that it takes.
			if other := proofOf(t, storeOf(proof...), root, key); !slices.Equal(other, proof) {
				t.Errorf("ProofOf of %q with just its nodes: %.60q", key, other)
			}
		}
	}
}

func TestNoProofs(t *testing.T) {
	pairs := pairsOf("do", "verb", "dog", "puppy")
	list, root := trieNodes(t, pairs), trieRoot(t, pairs)
	for _, key := range []string{"", "do", "dog", "none"} {
		for _, wrong := range []string{"", "x", hash(1), root[:31], root + "\x00", impl.EmptyRoot()[:31], impl.EmptyRoot() + "x"} {
			wantNoProof(t, "another root", list, wrong, key)
			wantNoProof(t, "another root", nil, wrong, key)
		}
		wantNoProof(t, "no nodes", nil, root, key)
		for _, wrong := range wrongStores(t) {
			wantNoProof(t, "a store that is not right", wrong, root, key)
			wantNoProof(t, "a store that is not right", wrong, impl.EmptyRoot(), key)
		}
	}
	for _, size := range []int{13, 14, 1000} {
		wantNoProof(t, "a long key", list, root, letters(size))
	}
	proofOf(t, list, root, letters(12))
}

// wantTampered: no other texts than those of the way show anything of the key.
func wantTampered(t *testing.T, root, key string, proof []string) {
	t.Helper()
	for i, text := range proof {
		wantBad(t, "a text left out", root, key, slices.Delete(slices.Clone(proof), i, i+1))
		wantBad(t, "cut off", root, key, proof[:i])
		wantBad(t, "the beginning left out", root, key, proof[i+1:])
		wantBad(t, "a text twice", root, key, slices.Insert(slices.Clone(proof), i, text))
		for place := range len(text) {
			turned := text[:place] + oneByte(int(text[place]^(1<<(place%8)))) + text[place+1:]
			wantBad(t, "a byte turned", root, key, changedAt(proof, i, turned))
		}
		for _, other := range []string{"", "\x80", "\xc0", text + "\x00", text[:len(text)-1], "\xc2\x201"} {
			if other != text {
				wantBad(t, "another text", root, key, changedAt(proof, i, other))
			}
		}
		for j := range i {
			swapped := slices.Clone(proof)
			swapped[i], swapped[j] = swapped[j], swapped[i]
			wantBad(t, "two texts the other way round", root, key, swapped)
		}
	}
	for _, more := range []string{"", "\x80", "\xc0", "\xc2\x201", letters(100)} {
		wantBad(t, "a text behind", root, key, append(slices.Clone(proof), more))
		wantBad(t, "a text ahead", root, key, append([]string{more}, proof...))
	}
	for _, n := range []int{29, 30, 31, 1000} {
		padded := slices.Clone(proof)
		for len(padded) < n {
			padded = append(padded, proof[len(proof)-1])
		}
		wantBad(t, "many texts", root, key, padded)
	}
}

func TestProofsThatWereChanged(t *testing.T) {
	for _, pairs := range [][]impl.Pair{pairSets()[1], pairSets()[2], pairSets()[3], pairSets()[4], pairSets()[5], pairSets()[6], pairSets()[8]} {
		list, root := trieNodes(t, pairs), trieRoot(t, pairs)
		for _, key := range keysAsked(pairs) {
			wantTampered(t, root, key, proofOf(t, list, root, key))
		}
	}
	pairs := deepPairs()
	list, root := trieNodes(t, pairs), trieRoot(t, pairs)
	wantTampered(t, root, pairs[12].Key, proofOf(t, list, root, pairs[12].Key))
}

// A node of the store behind a way that has ended adds nothing to it.
func TestNoTextBehindTheLast(t *testing.T) {
	pairs := pairsOf("", "root", "do", "verb", "dog", "puppy", "doge", "coin", "horse", "stallion")
	list, root := trieNodes(t, pairs), trieRoot(t, pairs)
	for _, key := range keysAsked(pairs) {
		proof := proofOf(t, list, root, key)
		for _, stored := range list {
			wantBad(t, "a node behind", root, key, append(slices.Clone(proof), stored.Text))
			wantBad(t, "a node ahead", root, key, append([]string{stored.Text}, proof...))
		}
	}
	longest := proofOf(t, list, root, "doge")
	for n := range len(longest) {
		for _, key := range []string{"do", "dog", "doge", "doges"} {
			if way := proofOf(t, list, root, key); len(way) != n {
				wantBad(t, "a piece of a longer way", root, key, longest[:n])
			}
		}
	}
}

// What a proof shows of another key, or of another root, is what is got of it.
func TestProofsOfAnotherKey(t *testing.T) {
	pairs := pairsOf("", "root", "do", "verb", "dog", "puppy", "doge", "coin", "horse", "stallion")
	other := withPair(t, pairs, "horse", "mare")
	list, root := trieNodes(t, pairs), trieRoot(t, pairs)
	keys := keysAsked(pairs)
	for _, key := range keys {
		proof := proofOf(t, list, root, key)
		for _, asked := range keys {
			code, value := shownAs(t, list, root, asked)
			if !slices.Equal(proof, proofOf(t, list, root, asked)) {
				code, value = impl.PfBad, ""
			}
			wantShown(t, root, asked, proof, code, value)
		}
		for _, wrong := range []string{trieRoot(t, other), hash(1), strings.Repeat("\x00", 32), impl.EmptyRoot()} {
			wantBad(t, "another root", wrong, key, proof)
		}
		for _, wrong := range []string{"", root[:31], root + "\x00", root[1:], "x" + root, letters(1000)} {
			wantBad(t, "no hash", wrong, key, proof)
			wantBad(t, "no hash", wrong, key, nil)
		}
		wantBad(t, "no texts", root, key, nil)
		for _, size := range []int{13, 14, 1000} {
			wantBad(t, "a long key", root, letters(size), proof)
		}
	}
	// A long key whose way would end all the same.
	proof := proofOf(t, list, root, letters(12))
	wantShown(t, root, letters(12), proof, impl.PfAbsent, "")
	wantBad(t, "13 bytes", root, letters(13), proof)
}

// Ways from the middle, and along nodes that no pairs have.
func TestProofsOfWhatNoPairsHave(t *testing.T) {
	leaf := leafItem(t, "\x07", "puppy")
	branch := branchItem(t, map[int]string{6: leaf}, "verb")
	below := longItem(t, "\x07\x06\x01", branch)
	above := longItem(t, "\x06", below)
	list := storeOf(leaf, branch, below, above)
	for _, c := range []struct {
		from, key, value string
		proof            []string
	}{
		{above, "gag", "puppy", []string{above, below, branch, leaf}}, {above, "ga", "verb", []string{above, below, branch}},
		{above, "g", "", []string{above, below}}, {above, "", "", []string{above}}, {above, "w", "", []string{above}},
		{above, "f", "", []string{above, below}}, {above, "gb", "", []string{above, below}}, {above, "gaw", "", []string{above, below, branch}},
		{above, "gaf", "", []string{above, below, branch, leaf}}, {above, "gagg", "", []string{above, below, branch, leaf}},
		{branch, "", "verb", []string{branch}}, {branch, "g", "puppy", []string{branch, leaf}}, {branch, "f", "", []string{branch, leaf}},
		{leaf, "", "", []string{leaf}}, {leaf, "g", "", []string{leaf}},
	} {
		root := librarySum(c.from)
		if proof := proofOf(t, list, root, c.key); !slices.Equal(proof, c.proof) {
			t.Errorf("ProofOf of %q: %q", c.key, proof)
		}
		code := int64(impl.PfAbsent)
		if c.value != "" {
			code = impl.PfHas
		}
		wantShown(t, root, c.key, c.proof, code, c.value)
		wantTampered(t, root, c.key, c.proof)
	}
	novalue := branchItem(t, map[int]string{6: leaf, 7: leaf}, "")
	wantShown(t, librarySum(novalue), "", []string{novalue}, impl.PfAbsent, "")
}

func TestProofsOfTowers(t *testing.T) {
	for n := range 27 {
		list, root := tower(t, n)
		for size := range impl.MaxKey + 1 {
			key := letters(size)
			proof := proofOf(t, list, root, key)
			if len(proof) != min(n, 2*size)+1 {
				t.Errorf("ProofOf of a tower of %d, %d bytes: %d texts", n, size, len(proof))
			}
			code, value := shownAs(t, list, root, key)
			wantShown(t, root, key, proof, code, value)
			wantBad(t, "the last one left out", root, key, proof[:len(proof)-1])
			for _, more := range []int{30, 31} {
				wantBad(t, "many texts", root, key, append(slices.Clone(proof), slices.Repeat([]string{list[0].Text}, more-len(proof))...))
			}
		}
	}
	high, root := tower(t, 300)
	if proof := proofOf(t, high, root, letters(12)); len(proof) != 25 {
		t.Errorf("the longest way has %d texts", len(proof))
	}
}

// A text may have the hash that is asked for and yet be no node's.
func TestTextsThatAreNoNodes(t *testing.T) {
	pairs := pairsOf("do", "verb", "dog", "puppy")
	list, root := trieNodes(t, pairs), trieRoot(t, pairs)
	for _, text := range []string{
		"", "x", "\xc0", "\xc1\x20", "\xc2\x20\x80", "\xc3\x201x", "\xc3\x20\x811", "\xf8\x02\x201", leafItem(t, "", letters(61)), leafItem(t, "\x01", ""),
		listOf(t, append(kidsAt(1), "")...), listOf(t, "\x00", hash(1)), leafItem(t, nibblePath(25), "1"), letters(70000),
	} {
		wantBad(t, "no node", librarySum(text), "", []string{text})
		wantBad(t, "no node", librarySum(text), "a", []string{text})
		above := longItem(t, "\x06", text)
		wantBad(t, "no node below", librarySum(above), "a", []string{above, text})
		wantShown(t, librarySum(above), "p", []string{above}, impl.PfAbsent, "")
		wantBad(t, "something behind", root, "do", append(proofOf(t, list, root, "do"), text))
	}
}

func wantAgrees(t *testing.T, list []impl.Stored, proof []string, want int) {
	t.Helper()
	givenList, room := withRoom(list)
	given, spare := withSpare(proof)
	kept, keptSpare := slices.Clone(room), slices.Clone(spare)
	if n, ok := impl.Agrees(givenList, given); !ok || n != int64(want) {
		t.Errorf("Agrees of %d nodes, %d texts: %d, %v; want %d", len(list), len(proof), n, ok, want)
	}
	if !slices.Equal(room, kept) || !slices.Equal(spare, keptSpare) {
		t.Error("Agrees writes into an argument")
	}
}

func wantDisagrees(t *testing.T, why string, list []impl.Stored, proof []string) {
	t.Helper()
	if n, ok := impl.Agrees(list, proof); ok || n != 0 {
		t.Errorf("Agrees, %s: %d nodes, %d texts: %d, %v", why, len(list), len(proof), n, ok)
	}
}

func TestAgrees(t *testing.T) {
	texts := leafTexts(0, 40)
	list := storeOf(texts[:35]...)
	others := []string{"", "\x80", "x", texts[36], texts[37], texts[0] + "x", texts[0][1:], librarySum(texts[0]), leafItem(t, "", letters(61)), letters(70000)}
	wantAgrees(t, list, nil, 0)
	wantAgrees(t, list, []string{}, 0)
	wantAgrees(t, nil, nil, 0)
	wantAgrees(t, nil, texts[:30], 0)
	wantAgrees(t, nil, others, 0)
	wantAgrees(t, list, others, 0)
	for _, n := range []int{1, 2, 29, 30} {
		wantAgrees(t, list, texts[:n], n)
		wantAgrees(t, list, texts[35-n:35], n)
		wantAgrees(t, list, slices.Repeat(texts[:1], n), n)
		wantAgrees(t, list, slices.Repeat(others[:1], n), 0)
	}
	for _, other := range others {
		for _, place := range []int{0, 3, 6} {
			wantAgrees(t, list, slices.Insert(slices.Clone(texts[:6]), place, other), 6)
			wantAgrees(t, list, slices.Insert(slices.Clone(texts[:6]), place, other, texts[7], texts[7], other), 8)
		}
	}
	wantAgrees(t, list, texts[30:40], 5)
	wantAgrees(t, list, []string{texts[3], texts[3]}, 2)
	wantAgrees(t, list, []string{texts[3], texts[1], texts[3], texts[2]}, 4)
	for _, n := range []int{31, 32, 1000} {
		wantDisagrees(t, "31 texts", list, slices.Repeat(texts[:1], n))
		wantDisagrees(t, "31 texts", list, slices.Repeat(others[:1], n))
		wantDisagrees(t, "31 texts", nil, slices.Repeat(others[:1], n))
	}
	for _, wrong := range wrongStores(t) {
		wantDisagrees(t, "a store that is not right", wrong, nil)
		wantDisagrees(t, "a store that is not right", wrong, texts[:3])
		wantDisagrees(t, "a store that is not right", wrong, textsIn(wrong)[:1])
	}
}

func TestAgreesWithAPartOfTheStore(t *testing.T) {
	pairs := pairsOf("", "root", "do", "verb", "dog", "puppy", "doge", "coin", "horse", "stallion")
	list, root := trieNodes(t, pairs), trieRoot(t, pairs)
	for _, key := range keysAsked(pairs) {
		proof := proofOf(t, list, root, key)
		for i, stored := range list {
			want := len(proof)
			if slices.Contains(proof, stored.Text) {
				want--
			}
			wantAgrees(t, slices.Delete(slices.Clone(list), i, i+1), proof, want)
		}
	}
}

func TestProofBytes(t *testing.T) {
	for _, c := range []struct {
		proof []string
		want  int64
	}{
		{nil, 0}, {[]string{}, 0}, {[]string{""}, 0}, {[]string{"", "", ""}, 0}, {[]string{"a"}, 1}, {[]string{"ab", "", "cde"}, 5},
		{[]string{"\xc3\xa4"}, 2}, {[]string{"\xff\x00", "\x00"}, 3}, {[]string{letters(100000), "x", letters(100000)}, 200001},
		{slices.Repeat([]string{"ab"}, 30), 60}, {slices.Repeat([]string{"ab"}, 31), 62}, {slices.Repeat([]string{"ab"}, 5000), 10000},
	} {
		given, room := withSpare(c.proof)
		kept := slices.Clone(room)
		if n := impl.ProofBytes(given); n != c.want || !slices.Equal(room, kept) {
			t.Errorf("ProofBytes of %d texts: %d; want %d", len(c.proof), n, c.want)
		}
	}
}

func TestProofsAreNewMemory(t *testing.T) {
	pairs := pairsOf("do", "verb", "dog", "puppy")
	list, root := trieNodes(t, pairs), trieRoot(t, pairs)
	first := proofOf(t, list, root, "dog")
	kept := slices.Clone(first)
	second := proofOf(t, list, root, "do")
	for i := range first {
		first[i] = "written"
	}
	first = append(first[:1], "written", "written")
	if again := proofOf(t, list, root, "dog"); !slices.Equal(again, kept) || !slices.Equal(second, kept[:2]) {
		t.Error("two answers share memory")
	}
}
