package tests

import (
	"fmt"
	"math"
	"math/rand"
	"slices"
	"strings"
	"testing"

	"loop.example/g00226/impl"
)

// filesOf: names and data by turns.
func filesOf(texts ...string) []impl.File {
	var list []impl.File
	for i := 0; i < len(texts); i += 2 {
		list = append(list, impl.File{Name: texts[i], Data: texts[i+1]})
	}
	return list
}

// someFiles: n of them by rising names, each with so many bytes.
func someFiles(n, bytes int) []impl.File {
	var list []impl.File
	for i := range n {
		list = append(list, impl.File{Name: fmt.Sprintf("f%02d", i), Data: letters(bytes)})
	}
	return list
}

func appendOp(name, data string) impl.DOp {
	return impl.DOp{Kind: impl.DkAppend, Name: name, Data: data}
}

func renameOp(name, to string) impl.DOp {
	return impl.DOp{Kind: impl.DkRename, Name: name, To: to}
}

func removeOp(name string) impl.DOp { return impl.DOp{Kind: impl.DkRemove, Name: name} }

// manyOps: n of them that take a disk back to what it was, as far as n is even.
func manyOps(n int) []impl.DOp {
	var ops []impl.DOp
	for i := range n {
		if i%2 == 0 {
			ops = append(ops, appendOp("turn", "x"))
		} else {
			ops = append(ops, removeOp("turn"))
		}
	}
	return ops
}

// plainDone: files with an op done, by the document's words; false where it finds no file.
func plainDone(files []impl.File, op impl.DOp) ([]impl.File, bool) {
	var out []impl.File
	data, found := "", false
	for _, f := range files {
		if f.Name == op.Name {
			data, found = f.Data, true
		} else if op.Kind != impl.DkRename || f.Name != op.To {
			out = append(out, f)
		}
	}
	switch {
	case op.Kind == impl.DkAppend:
		out, found = append(out, impl.File{Name: op.Name, Data: data + op.Data}), true
	case op.Kind == impl.DkRename && found:
		out = append(out, impl.File{Name: op.To, Data: data})
	case !found:
		return slices.Clone(files), false
	}
	slices.SortFunc(out, func(a, b impl.File) int { return strings.Compare(a.Name, b.Name) })
	return out, found
}

func plainFits(files []impl.File) bool {
	total := 0
	for _, f := range files {
		total += len(f.Data)
	}
	return len(files) <= 60 && total <= 200000
}

// diskOf: the ops done on safe, whether they fit or not.
func diskOf(safe []impl.File, ops ...impl.DOp) impl.Disk {
	live := safe
	for _, op := range ops {
		live, _ = plainDone(live, op)
	}
	return impl.Disk{Live: live, Safe: safe, Ops: ops}
}

func syncedDisk(texts ...string) impl.Disk { return diskOf(filesOf(texts...)) }

func sameDisk(a, b impl.Disk) bool {
	return slices.Equal(a.Live, b.Live) && slices.Equal(a.Safe, b.Safe) && slices.Equal(a.Ops, b.Ops)
}

func shownFiles(files []impl.File) string {
	var all []string
	for _, f := range files[:min(len(files), 5)] {
		all = append(all, fmt.Sprintf("%.20q (%d) %.20q (%d)", f.Name, len(f.Name), f.Data, len(f.Data)))
	}
	return fmt.Sprintf("%d files %s", len(files), strings.Join(all, ", "))
}

func shownDOp(op impl.DOp) string {
	return fmt.Sprintf("%d %.20q (%d) to %.20q (%d) %.20q (%d)", op.Kind, op.Name, len(op.Name), op.To, len(op.To), op.Data, len(op.Data))
}

func shownDisk(d impl.Disk) string {
	var all []string
	for _, op := range d.Ops[:min(len(d.Ops), 5)] {
		all = append(all, shownDOp(op))
	}
	return fmt.Sprintf("disk [live %s; safe %s; %d ops %s]", shownFiles(d.Live), shownFiles(d.Safe), len(d.Ops), strings.Join(all, ", "))
}

// diskRoom: a copy with spare room behind its lists, and all of that room.
func diskRoom(d impl.Disk) (copied, room impl.Disk) {
	spare := filesOf("spare", "1", "spare", "2")
	room.Live = append(slices.Clone(d.Live), spare...)
	room.Safe = append(slices.Clone(d.Safe), spare...)
	room.Ops = append(slices.Clone(d.Ops), appendOp("spare", "1"), appendOp("spare", "2"))
	copied = impl.Disk{Live: room.Live[:len(d.Live)], Safe: room.Safe[:len(d.Safe)], Ops: room.Ops[:len(d.Ops)]}
	return copied, room
}

func overwriteFiles(list []impl.File) {
	all := list[:cap(list)]
	for i := range all {
		all[i] = impl.File{Name: "written"}
	}
}

func overwriteOps(list []impl.DOp) {
	all := list[:cap(list)]
	for i := range all {
		all[i] = impl.DOp{Kind: -7}
	}
}

// wantDisk: this disk, told by ask twice, of a copy of d: in memory of its own, list by list, and nothing written into d.
func wantDisk(t *testing.T, why string, d, want impl.Disk, ask func(d impl.Disk) impl.Disk) {
	t.Helper()
	given, room := diskRoom(d)
	_, kept := diskRoom(d)
	_, wanted := diskRoom(want)
	got, again := ask(given), ask(given)
	if !sameDisk(got, want) || !sameDisk(again, want) {
		t.Errorf("%s: of a %s: a %s; want a %s", why, shownDisk(d), shownDisk(got), shownDisk(want))
		return
	}
	overwriteFiles(got.Live)
	if !slices.Equal(got.Safe, wanted.Safe[:len(want.Safe)]) {
		t.Errorf("%s: Live and Safe share memory", why)
	}
	overwriteFiles(got.Safe)
	overwriteOps(got.Ops)
	if !sameDisk(room, kept) || !sameDisk(again, want) {
		t.Errorf("%s: shares memory or writes into its argument", why)
	}
}

func wantDiskOk(t *testing.T, why string, d impl.Disk, want bool) {
	t.Helper()
	given, room := diskRoom(d)
	_, kept := diskRoom(d)
	if ok := impl.DiskOk(given); ok != want || !sameDisk(room, kept) {
		t.Errorf("DiskOk, %s: of a %s: %v", why, shownDisk(d), ok)
	}
}

// rightDisks: synced ones and others, some at their limits.
func rightDisks() []impl.Disk {
	return []impl.Disk{
		{}, {Live: []impl.File{}, Safe: []impl.File{}, Ops: []impl.DOp{}},
		syncedDisk("a", ""), syncedDisk("a", "1"), syncedDisk("a", "1", "b", ""), syncedDisk("\x00", "1", "\x00\x00", "", "a", "\x00", "\xff", "2"),
		syncedDisk(letters(100), "1"), syncedDisk("a", "1", "b", "2", "b.new", "3", "log", "4"),
		syncedDisk("a", letters(200000)), syncedDisk("a", letters(1), "b", letters(199999)), diskOf(someFiles(60, 0)), diskOf(someFiles(60, 3333)), diskOf(someFiles(50, 4000)),
		diskOf(nil, appendOp("a", "")), diskOf(nil, appendOp("a", "1"), appendOp("a", "2"), appendOp("a", "")), diskOf(nil, appendOp("b", "1"), appendOp("a", "2")),
		diskOf(filesOf("a", "1"), appendOp("a", "2"), renameOp("a", "b"), appendOp("a", "3"), removeOp("b")), diskOf(filesOf("a", "1"), renameOp("a", "a")),
		diskOf(filesOf("a", "1", "b", "2"), renameOp("a", "b")), diskOf(filesOf("a", "1", "b", "2"), renameOp("b", "a")), diskOf(filesOf("a", "1"), removeOp("a"), appendOp("a", "2")),
		diskOf(filesOf("a", "1"), removeOp("a")), diskOf(filesOf("a", "1"), renameOp("a", letters(100))), diskOf(nil, appendOp(letters(100), "1"), renameOp(letters(100), "a")),
		diskOf(nil, manyOps(1)...), diskOf(nil, manyOps(199)...), diskOf(nil, manyOps(200)...), diskOf(someFiles(59, 0), manyOps(200)...), diskOf(filesOf("a", letters(199999)), manyOps(200)...),
		diskOf(filesOf("a", letters(200000)), removeOp("a"), appendOp("b", letters(200000))), diskOf(someFiles(60, 0), removeOp("f03"), appendOp("new", "1")), diskOf(someFiles(60, 0), renameOp("f03", "f04"), appendOp("new", "1")),
		diskOf(filesOf("log", "ab"), appendOp("log", "cd"), appendOp("log.new", "e"), renameOp("log.new", "log")),
	}
}

type wrongDisk struct {
	why string
	d   impl.Disk
}

func wrongFiles() map[string][]impl.File {
	return map[string][]impl.File{
		"a name of 0 bytes":               filesOf("", "1"),
		"a name of 0 bytes ahead":         filesOf("", "", "a", "1"),
		"a name of 101 bytes":             filesOf(letters(101), "1"),
		"a name of 101 bytes behind":      filesOf("a", "1", letters(101), "1"),
		"a long name":                     filesOf(letters(100000), ""),
		"names that fall":                 filesOf("b", "1", "a", "1"),
		"names that fall behind":          filesOf("a", "1", "c", "1", "b", "1"),
		"a name ahead of its beginning":   filesOf("ab", "1", "a", "1"),
		"names that fall by a high byte":  filesOf("\x80", "1", "\x7f", "1"),
		"a name twice":                    filesOf("a", "1", "a", "1"),
		"a name twice, other data":        filesOf("a", "1", "b", "2", "b", "3"),
		"61 files":                        someFiles(61, 0),
		"100 files":                       someFiles(100, 1),
		"200001 bytes":                    filesOf("a", letters(200001)),
		"200001 bytes in two files":       filesOf("a", letters(100000), "b", letters(100001)),
		"200001 bytes in many files":      append(someFiles(50, 4000), filesOf("g", "1")...),
		"200001 bytes, the last are none": filesOf("a", letters(200001), "b", ""),
		"one million bytes":               filesOf("a", letters(1000000)),
	}
}

// wrongDOps: not of their form, one way or another.
func wrongDOps() []impl.DOp {
	var list []impl.DOp
	for _, kind := range []int64{0, 4, -1, 5, -3, 1<<32 + 1, math.MaxInt64, math.MinInt64} {
		list = append(list, impl.DOp{Kind: kind, Name: "a"}, impl.DOp{Kind: kind, Name: "a", To: "b"}, impl.DOp{Kind: kind, Name: "a", Data: "1"}, impl.DOp{Kind: kind})
	}
	for _, name := range []string{"", letters(101), letters(200), letters(100000)} {
		list = append(list, appendOp(name, "1"), appendOp(name, ""), removeOp(name), renameOp(name, "b"), renameOp(name, name), renameOp("a", name))
	}
	return append(list, impl.DOp{},
		impl.DOp{Kind: impl.DkAppend, Name: "a", To: "b"}, impl.DOp{Kind: impl.DkAppend, Name: "a", To: "b", Data: "1"}, impl.DOp{Kind: impl.DkAppend, Name: "a", To: "a", Data: "1"},
		impl.DOp{Kind: impl.DkRemove, Name: "a", To: "b"}, impl.DOp{Kind: impl.DkRemove, Name: "a", To: "a"}, impl.DOp{Kind: impl.DkRemove, Name: "a", Data: "1"}, impl.DOp{Kind: impl.DkRemove, Name: "a", To: "b", Data: "1"},
		impl.DOp{Kind: impl.DkRename, Name: "a", To: "b", Data: "1"}, impl.DOp{Kind: impl.DkRename, Name: "a", To: "a", Data: "\x00"})
}

// wrongDisks: not right, one way or another.
func wrongDisks() []wrongDisk {
	var list []wrongDisk
	for why, files := range wrongFiles() {
		// Ops that would lead from right files to these, or from these to right ones.
		list = append(list, wrongDisk{why, diskOf(files)}, wrongDisk{why + " in Live", impl.Disk{Live: files}}, wrongDisk{why + " in Safe", impl.Disk{Safe: files}})
		var cut []impl.DOp
		for _, f := range files {
			cut = append(cut, removeOp(f.Name))
		}
		list = append(list, wrongDisk{why + " in Safe, all removed", impl.Disk{Safe: files, Ops: cut}})
		if files[0].Name != "" && len(files) < 100 {
			var made []impl.DOp
			for _, f := range files {
				made = append(made, appendOp(f.Name, f.Data))
			}
			list = append(list, wrongDisk{why + " in Live, all appended", impl.Disk{Live: files, Ops: made}})
		}
	}
	for _, op := range wrongDOps() {
		on := filesOf("a", "1")
		list = append(list, wrongDisk{"an op not of its form", diskOf(on, op)}, wrongDisk{"an op not of its form, first", diskOf(on, op, appendOp("c", "2"))}, wrongDisk{"an op not of its form, last", diskOf(on, appendOp("c", "2"), op)}, wrongDisk{"an op not of its form, nothing done", impl.Disk{Live: on, Safe: on, Ops: []impl.DOp{op}}})
	}
	for _, ops := range [][]impl.DOp{{removeOp("a")}, {renameOp("a", "b")}, {renameOp("a", "a")}, {appendOp("a", ""), removeOp("a"), removeOp("a")}, {appendOp("b", "1"), renameOp("a", "b")}, {appendOp("a", "1"), renameOp("a", "b"), removeOp("a")}, {appendOp("b", "1"), removeOp("a")}, {removeOp("a"), appendOp("a", "1")}} {
		list = append(list, wrongDisk{"an op that finds no file", diskOf(nil, ops...)}, wrongDisk{"an op that finds no file, others there", diskOf(filesOf("aa", "1", "c", ""), ops...)})
	}
	list = append(list,
		wrongDisk{"201 ops", diskOf(nil, manyOps(201)...)}, wrongDisk{"202 ops", diskOf(nil, manyOps(202)...)}, wrongDisk{"1000 ops", diskOf(nil, manyOps(1000)...)},
		wrongDisk{"61 files on the way", diskOf(someFiles(60, 0), appendOp("g", ""), removeOp("g"))}, wrongDisk{"61 files on the way", diskOf(someFiles(60, 0), appendOp("g", ""), removeOp("f00"))}, wrongDisk{"61 files on the way", diskOf(someFiles(60, 0), appendOp("g", "1"), renameOp("g", "f07"))},
		wrongDisk{"200001 bytes on the way", diskOf(filesOf("a", letters(200000)), appendOp("a", "1"), removeOp("a"))}, wrongDisk{"200001 bytes on the way", diskOf(filesOf("a", letters(199999)), appendOp("b", "12"), renameOp("b", "a"))}, wrongDisk{"200001 bytes on the way", diskOf(filesOf("a", letters(199999)), appendOp("b", "12"), renameOp("a", "b"))},
		wrongDisk{"200001 bytes at the end", diskOf(filesOf("a", letters(200000)), appendOp("b", "1"))})
	for _, c := range []struct{ right, other []impl.File }{
		{filesOf("a", "12"), filesOf("a", "1")}, {filesOf("a", "12"), filesOf("a", "21")}, {filesOf("a", "12"), nil}, {filesOf("a", "12"), filesOf("b", "12")}, {filesOf("a", "12"), filesOf("a", "12", "b", "")},
		{filesOf("a", "12"), filesOf("a", "123")}, {filesOf("a", "12"), filesOf("a", "2")}, {filesOf("a", "12"), filesOf("A", "12")},
	} {
		list = append(list, wrongDisk{"ops that do not make Live", impl.Disk{Live: c.other, Safe: filesOf("a", "1"), Ops: []impl.DOp{appendOp("a", "2")}}}, wrongDisk{"no ops between unlike files", impl.Disk{Live: c.other, Safe: c.right}}, wrongDisk{"no ops between unlike files", impl.Disk{Live: c.right, Safe: c.other}})
	}
	for _, live := range [][]impl.File{filesOf("a", "1", "b", "2"), filesOf("a", "2", "b", "2"), filesOf("b", "2", "a", "1")} {
		for _, safe := range [][]impl.File{filesOf("b", "2", "a", "1"), filesOf("a", "1", "a", "1", "b", "2"), filesOf("a", "2", "a", "1", "b", "2"), filesOf("a", "1", "b", "2", "a", "1"), filesOf("", "0", "a", "1", "b", "2")} {
			list = append(list, wrongDisk{"names in Safe that do not rise", impl.Disk{Live: live, Safe: safe}}, wrongDisk{"names in Safe that do not rise, with ops", impl.Disk{Live: live, Safe: safe, Ops: []impl.DOp{renameOp("a", "a")}}}, wrongDisk{"names in Live that do not rise", impl.Disk{Live: safe, Safe: live}})
		}
	}
	return append(list, wrongDisk{"renamed, and still there", impl.Disk{Live: filesOf("a", "1", "b", "1"), Safe: filesOf("a", "1"), Ops: []impl.DOp{renameOp("a", "b")}}},
		wrongDisk{"renamed to itself, and gone", impl.Disk{Safe: filesOf("a", "1"), Ops: []impl.DOp{renameOp("a", "a")}}},
		wrongDisk{"removed, and empty", impl.Disk{Live: filesOf("a", ""), Safe: filesOf("a", "1"), Ops: []impl.DOp{removeOp("a")}}},
		wrongDisk{"appended nothing, and not there", impl.Disk{Ops: []impl.DOp{appendOp("a", "")}}},
		wrongDisk{"put ahead, not behind", impl.Disk{Live: filesOf("a", "21"), Safe: filesOf("a", "1"), Ops: []impl.DOp{appendOp("a", "2")}}},
		wrongDisk{"ops in another order", impl.Disk{Live: filesOf("a", "132"), Safe: filesOf("a", "1"), Ops: []impl.DOp{appendOp("a", "2"), appendOp("a", "3")}}})
}

func TestDisksThatAreRight(t *testing.T) {
	if impl.MaxFiles != 60 || impl.MaxBytes != 200000 || impl.MaxOps != 200 {
		t.Error("another limit")
	}
	for i, d := range rightDisks() {
		wantDiskOk(t, fmt.Sprint("the right disk ", i), d, true)
	}
	for n := range 61 {
		wantDiskOk(t, "a disk of files", diskOf(someFiles(n, n)), true)
	}
	for n := 1; n <= 102; n++ {
		wantDiskOk(t, "a name of some length", syncedDisk(letters(n), "1"), n <= 100)
		wantDiskOk(t, "a name of some length", diskOf(nil, appendOp(letters(n), "1")), n <= 100)
		wantDiskOk(t, "a name of some length", diskOf(filesOf("a", "1"), renameOp("a", letters(n))), n <= 100)
	}
	for n := 198; n <= 202; n++ {
		wantDiskOk(t, "some ops", diskOf(nil, manyOps(n)...), n <= 200)
		wantDiskOk(t, "some ops", diskOf(filesOf("a", "1"), slices.Repeat([]impl.DOp{renameOp("a", "a")}, n)...), n <= 200)
	}
	for _, n := range []int{199999, 200000, 200001} {
		wantDiskOk(t, "some bytes", syncedDisk("a", letters(n)), n <= 200000)
		wantDiskOk(t, "some bytes", diskOf(nil, appendOp("a", letters(n))), n <= 200000)
		wantDiskOk(t, "some bytes", diskOf(nil, appendOp("a", letters(n-100)), appendOp("b", letters(100))), n <= 200000)
	}
	for n := 58; n <= 62; n++ {
		wantDiskOk(t, "some files", diskOf(someFiles(n-1, 1), appendOp("new", "")), n <= 60)
	}
}

func TestDisksThatAreWrong(t *testing.T) {
	for _, c := range wrongDisks() {
		wantDiskOk(t, c.why, c.d, false)
		wantDisk(t, "Sync, "+c.why, c.d, impl.Disk{}, impl.Sync)
		for _, op := range []impl.DOp{appendOp("a", "1"), removeOp("a"), renameOp("a", "b"), removeOp("none"), {}, appendOp("a", letters(200001))} {
			wantDone(t, c.why, c.d, op, impl.Disk{}, impl.DkDisk)
		}
		wantCrashed(t, c.why, c.d, nil, 0, impl.Disk{}, false)
		wantCrashed(t, c.why, c.d, []int64{0}, 1, impl.Disk{}, false)
		for _, name := range []string{"a", "f00", "none", ""} {
			wantNoFile(t, c.why, c.d, name)
		}
		for _, name := range []string{"a", "f00", "none", "", letters(97)} {
			wantReplaced(t, c.why, c.d, name, "1", impl.Disk{}, impl.DkDisk)
		}
	}
}

func wantDone(t *testing.T, why string, d impl.Disk, op impl.DOp, want impl.Disk, wantCode int64) {
	t.Helper()
	wantDisk(t, "Do, "+why+": "+shownDOp(op), d, want, func(d impl.Disk) impl.Disk {
		got, code := impl.Do(d, op)
		if code != wantCode {
			t.Errorf("Do, %s: of %s on a %s: %d; want %d", why, shownDOp(op), shownDisk(d), code, wantCode)
		}
		return got
	})
}

// wantDoes: DkOk, and the disk that the document's words make.
func wantDoes(t *testing.T, why string, d impl.Disk, op impl.DOp) {
	t.Helper()
	live, _ := plainDone(d.Live, op)
	want := impl.Disk{Live: live, Safe: d.Safe, Ops: append(slices.Clone(d.Ops), op)}
	wantDone(t, why, d, op, want, impl.DkOk)
	wantDiskOk(t, "behind Do, "+why, want, true)
}

func TestKnownDo(t *testing.T) {
	d := impl.Disk{Live: filesOf("a", "12", "c", ""), Safe: filesOf("a", "1", "c", ""), Ops: []impl.DOp{appendOp("a", "2")}}
	for _, c := range []struct {
		op   impl.DOp
		live []impl.File
	}{
		{appendOp("a", "3"), filesOf("a", "123", "c", "")}, {appendOp("a", ""), filesOf("a", "12", "c", "")}, {appendOp("b", "3"), filesOf("a", "12", "b", "3", "c", "")},
		{appendOp("b", ""), filesOf("a", "12", "b", "", "c", "")}, {appendOp("d", ""), filesOf("a", "12", "c", "", "d", "")}, {appendOp("A", "\x00"), filesOf("A", "\x00", "a", "12", "c", "")}, {appendOp("c", "c"), filesOf("a", "12", "c", "c")},
		{renameOp("a", "b"), filesOf("b", "12", "c", "")}, {renameOp("a", "d"), filesOf("c", "", "d", "12")}, {renameOp("a", "c"), filesOf("c", "12")}, {renameOp("c", "a"), filesOf("a", "")}, {renameOp("a", "a"), filesOf("a", "12", "c", "")}, {renameOp("c", "c"), filesOf("a", "12", "c", "")},
		{removeOp("a"), filesOf("c", "")}, {removeOp("c"), filesOf("a", "12")},
	} {
		want := impl.Disk{Live: c.live, Safe: filesOf("a", "1", "c", ""), Ops: []impl.DOp{appendOp("a", "2"), c.op}}
		wantDone(t, "a known disk", d, c.op, want, impl.DkOk)
		got, _ := impl.Do(d, c.op)
		wantDiskOk(t, "behind Do", got, true)
		for _, f := range c.live {
			wantFile(t, got, f.Name, f.Data)
		}
	}
	wantDone(t, "an empty disk", impl.Disk{}, appendOp("a", ""), impl.Disk{Live: filesOf("a", ""), Ops: []impl.DOp{appendOp("a", "")}}, impl.DkOk)
	wantDone(t, "the last file", syncedDisk("a", "1"), removeOp("a"), impl.Disk{Safe: filesOf("a", "1"), Ops: []impl.DOp{removeOp("a")}}, impl.DkOk)
}

func TestDoOfNoForm(t *testing.T) {
	full := diskOf(append(filesOf("a", "1"), someFiles(59, 0)...), slices.Repeat([]impl.DOp{renameOp("a", "a")}, 200)...)
	for _, d := range []impl.Disk{{}, syncedDisk("a", "1"), syncedDisk("a", "1", "b", "2"), diskOf(nil, appendOp("a", "1"), renameOp("a", "b")), full, syncedDisk("a", letters(200000))} {
		for _, op := range wrongDOps() {
			wantDone(t, "no form", d, op, d, impl.DkForm)
		}
	}
	for _, name := range []string{"a", letters(2), letters(99), letters(100), "\x00", "\xff"} {
		wantDoes(t, "a name", syncedDisk("a", "1"), appendOp(name, "2"))
		wantDoes(t, "a name", syncedDisk("a", "1"), renameOp("a", name))
		wantDoes(t, "a name", syncedDisk(name, "1"), removeOp(name))
		wantDoes(t, "a name", syncedDisk(name, "1"), renameOp(name, "a"))
	}
}

func TestDoOfNoFile(t *testing.T) {
	full := diskOf(someFiles(60, 0), slices.Repeat([]impl.DOp{renameOp("f00", "f00")}, 200)...)
	for _, d := range []impl.Disk{{}, syncedDisk("aa", "1"), syncedDisk("b", "1", "c", ""), diskOf(filesOf("a", "1"), removeOp("a")), diskOf(filesOf("a", "1"), renameOp("a", "b")), full, diskOf(nil, manyOps(200)...)} {
		for _, op := range []impl.DOp{removeOp("a"), renameOp("a", "b"), renameOp("a", "a"), renameOp("a", letters(100)), removeOp(letters(100)), renameOp("", "b"), removeOp(letters(101))} {
			code := int64(impl.DkNone)
			if len(op.Name) != 1 && len(op.Name) != 100 {
				code = impl.DkForm
			}
			wantDone(t, "no file", d, op, d, code)
		}
	}
}

func TestDoOfFullDisks(t *testing.T) {
	for _, n := range []int{198, 199, 200} {
		d := diskOf(filesOf("a", "1"), slices.Repeat([]impl.DOp{renameOp("a", "a")}, n)...)
		for _, op := range []impl.DOp{appendOp("a", ""), appendOp("b", "2"), removeOp("a"), renameOp("a", "b"), renameOp("a", "a")} {
			if n < 200 {
				wantDoes(t, "Ops left", d, op)
			} else {
				wantDone(t, "Ops full", d, op, d, impl.DkFull)
			}
		}
	}
	for _, n := range []int{58, 59} {
		wantDoes(t, "a file more", diskOf(someFiles(n, 10)), appendOp("new", "1"))
		wantDoes(t, "a file more", diskOf(someFiles(n, 10)), appendOp("new", ""))
		wantDoes(t, "a file more ahead", diskOf(someFiles(n, 10)), appendOp("a", ""))
	}
	files := diskOf(someFiles(60, 10))
	for _, op := range []impl.DOp{appendOp("new", "1"), appendOp("new", ""), appendOp("a", "")} {
		wantDone(t, "61 files", files, op, files, impl.DkFull)
	}
	for _, op := range []impl.DOp{appendOp("f00", "1"), renameOp("f00", "new"), renameOp("f00", "f59"), removeOp("f30"), appendOp("f59", letters(199400))} {
		wantDoes(t, "60 files", files, op)
	}
	wantDone(t, "60 files, a byte more", files, appendOp("f59", letters(199401)), files, impl.DkFull)
	bytes := syncedDisk("a", letters(100000), "b", letters(99990))
	for _, name := range []string{"a", "b", "c"} {
		wantDoes(t, "just 200000 bytes", bytes, appendOp(name, letters(10)))
		wantDoes(t, "199999 bytes", bytes, appendOp(name, letters(9)))
		wantDone(t, "200001 bytes", bytes, appendOp(name, letters(11)), bytes, impl.DkFull)
		wantDone(t, "many bytes", bytes, appendOp(name, letters(1000000)), bytes, impl.DkFull)
	}
	full := syncedDisk("a", letters(200000))
	for _, op := range []impl.DOp{appendOp("a", ""), appendOp("b", ""), renameOp("a", "b"), removeOp("a")} {
		wantDoes(t, "200000 bytes there", full, op)
	}
	wantDone(t, "one more", full, appendOp("b", "1"), full, impl.DkFull)
	// Safe may be full where Live is not, and the other way.
	wantDoes(t, "full in Safe alone", diskOf(filesOf("a", letters(200000)), removeOp("a")), appendOp("b", letters(200000)))
	wantDoes(t, "full in Safe alone", diskOf(someFiles(60, 0), removeOp("f00")), appendOp("b", ""))
	grown := diskOf(nil, appendOp("a", letters(200000)))
	wantDone(t, "full in Live alone", grown, appendOp("b", "1"), grown, impl.DkFull)
}

func TestWhichCodeOfDoComesFirst(t *testing.T) {
	full := diskOf(append(filesOf("a", "1"), someFiles(59, 3389)...), slices.Repeat([]impl.DOp{renameOp("a", "a")}, 200)...)
	wantDiskOk(t, "full", full, true)
	wrong := full
	wrong.Ops = append(slices.Clone(full.Ops), renameOp("a", "a"))
	for _, op := range []impl.DOp{{}, removeOp("none"), renameOp("", "b"), removeOp("a"), appendOp("new", letters(200000)), renameOp("none", "")} {
		wantDone(t, "wrong ahead of all", wrong, op, impl.Disk{}, impl.DkDisk)
	}
	for _, op := range []impl.DOp{{Kind: 4, Name: "none"}, renameOp("none", ""), renameOp("none", letters(101)), removeOp(""), {Kind: impl.DkRemove, Name: "none", To: "a"}, {Kind: impl.DkRemove, Name: "none", Data: "1"}, {Kind: impl.DkRename, Name: "none", To: "a", Data: "1"}, appendOp("", letters(200000)), {Kind: impl.DkAppend, Name: "new", To: "b", Data: letters(200001)}} {
		wantDone(t, "form ahead of file and room", full, op, full, impl.DkForm)
	}
	for _, op := range []impl.DOp{removeOp("none"), renameOp("none", "a"), renameOp("none", "none")} {
		wantDone(t, "file ahead of room", full, op, full, impl.DkNone)
	}
	for _, op := range []impl.DOp{appendOp("new", ""), appendOp("a", letters(200000)), removeOp("a"), renameOp("a", "new")} {
		wantDone(t, "room last", full, op, full, impl.DkFull)
	}
}

func TestSync(t *testing.T) {
	for _, d := range rightDisks() {
		wantDisk(t, "Sync", d, impl.Disk{Live: d.Live, Safe: d.Live}, impl.Sync)
		once := impl.Sync(d)
		wantDiskOk(t, "behind Sync", once, true)
		wantDisk(t, "Sync twice", once, once, impl.Sync)
	}
}

func wantCrashed(t *testing.T, why string, d impl.Disk, keep []int64, torn int64, want impl.Disk, wantOk bool) {
	t.Helper()
	room := append(slices.Clone(keep), -7, -7)
	kept := slices.Clone(room)
	wantDisk(t, fmt.Sprintf("Crash, %s: %.40v, %d", why, keep, torn), d, want, func(d impl.Disk) impl.Disk {
		got, ok := impl.Crash(d, room[:len(keep)], torn)
		if ok != wantOk {
			t.Errorf("Crash, %s: of a %s with %.40v, %d: %v", why, shownDisk(d), keep, torn, ok)
		}
		return got
	})
	if !slices.Equal(room, kept) {
		t.Errorf("Crash, %s: writes into keep", why)
	}
}

func wantLeft(t *testing.T, why string, d impl.Disk, keep []int64, torn int64, files ...string) {
	t.Helper()
	wantCrashed(t, why, d, keep, torn, syncedDisk(files...), true)
}

// plainCrash: by the document's words, where d is right, keep rises within Ops, and torn is not below 0.
func plainCrash(d impl.Disk, keep []int64, torn int64) (impl.Disk, bool) {
	files := d.Safe
	for i, place := range keep {
		op := d.Ops[place]
		if i == len(keep)-1 && op.Kind == impl.DkAppend && torn < int64(len(op.Data)) {
			op.Data = op.Data[:torn]
		}
		files, _ = plainDone(files, op)
	}
	if !plainFits(files) {
		return impl.Disk{}, false
	}
	return impl.Disk{Live: files, Safe: files}, true
}

// subsets: of the places below n.
func subsets(n int) [][]int64 {
	var list [][]int64
	for bits := range 1 << n {
		var places []int64
		for i := range n {
			if bits>>i%2 == 1 {
				places = append(places, int64(i))
			}
		}
		list = append(list, places)
	}
	return list
}

func places(n int) []int64 {
	var list []int64
	for i := range n {
		list = append(list, int64(i))
	}
	return list
}

func TestKnownCrashes(t *testing.T) {
	d := diskOf(filesOf("a", "12", "b", "x"), appendOp("a", "345"), renameOp("a", "c"), appendOp("a", "6"), removeOp("b"), appendOp("d", ""))
	for _, torn := range []int64{0, 1, 1000} {
		wantLeft(t, "none", d, nil, torn, "a", "12", "b", "x")
		wantLeft(t, "all", d, []int64{0, 1, 2, 3, 4}, torn, "a", "6", "c", "12345", "d", "")
		wantLeft(t, "the rename alone", d, []int64{1}, torn, "b", "x", "c", "12")
		wantLeft(t, "the remove alone", d, []int64{3}, torn, "a", "12")
		wantLeft(t, "an append of nothing", d, []int64{4}, torn, "a", "12", "b", "x", "d", "")
		wantLeft(t, "an append whole ahead of a rename", d, []int64{0, 1}, torn, "b", "x", "c", "12345")
		wantLeft(t, "an append whole ahead of a remove", d, []int64{0, 3}, torn, "a", "12345")
		wantLeft(t, "two appends whole ahead of a remove", d, []int64{0, 2, 3}, torn, "a", "123456")
	}
	for torn, left := range []string{"12", "123", "1234", "12345", "12345", "12345"} {
		wantLeft(t, "an append alone, torn", d, []int64{0}, int64(torn), "a", left, "b", "x")
	}
	wantLeft(t, "the second append torn", d, []int64{0, 2}, 0, "a", "12345", "b", "x")
	wantLeft(t, "the second append whole", d, []int64{0, 2}, 1, "a", "123456", "b", "x")
	wantLeft(t, "the first append is not torn", d, []int64{0, 2}, math.MaxInt64, "a", "123456", "b", "x")
	wantLeft(t, "behind the rename, torn", d, []int64{1, 2}, 0, "a", "", "b", "x", "c", "12")
	wantLeft(t, "behind the rename, whole", d, []int64{1, 2}, 5, "a", "6", "b", "x", "c", "12")
	wantLeft(t, "a file that is made, torn to nothing", diskOf(nil, appendOp("a", "123")), []int64{0}, 0, "a", "")
	wantLeft(t, "bytes of more than one", diskOf(nil, appendOp("a", "\xc3\xa9")), []int64{0}, 1, "a", "\xc3")
	gone := diskOf(nil, appendOp("a", "1"), renameOp("a", "b"), appendOp("a", "2"), removeOp("b"), renameOp("a", "b"))
	wantLeft(t, "renames that find no file", gone, []int64{1, 4}, 0)
	wantLeft(t, "a rename that finds no file leaves To", diskOf(filesOf("b", "old"), appendOp("a", "1"), renameOp("a", "b")), []int64{1}, 0, "b", "old")
	wantLeft(t, "a remove that finds no file", gone, []int64{3}, 0)
	wantLeft(t, "a remove that finds no file, others there", gone, []int64{0, 3}, 0, "a", "1")
	wantLeft(t, "a rename that finds another file", gone, []int64{0, 4}, 0, "b", "1")
	wantLeft(t, "a rename onto a file", gone, []int64{0, 1, 2, 4}, 0, "b", "2")
	wantLeft(t, "a rename onto itself", diskOf(filesOf("a", "1"), renameOp("a", "a")), []int64{0}, 0, "a", "1")
}

func TestCrashesThatAreRefused(t *testing.T) {
	three := diskOf(filesOf("a", "1"), appendOp("a", "2"), renameOp("a", "b"), removeOp("b"))
	for _, d := range []impl.Disk{{}, syncedDisk("a", "1"), three, diskOf(nil, manyOps(200)...)} {
		n := int64(len(d.Ops))
		for _, keep := range [][]int64{{-1}, {n}, {n + 1}, {math.MaxInt64}, {math.MinInt64}, {1<<32 + 0}, {-1, 0}, {0, n}, {n - 1, n}, {0, 0}, {1, 1}, {1, 0}, {2, 1}, {0, 1, 1}, {0, 2, 1}, {0, 1, 2, n}, {0, -1}, slices.Repeat([]int64{0}, 1000), places(int(n) + 1)} {
			wantCrashed(t, "keep", d, keep, 0, impl.Disk{}, false)
			wantCrashed(t, "keep", d, keep, 5, impl.Disk{}, false)
		}
		for _, torn := range []int64{-1, -2, math.MinInt64} {
			for _, keep := range [][]int64{nil, {}, {0}, {1}, {2}, places(int(n)), {n}} {
				wantCrashed(t, "torn", d, keep, torn, impl.Disk{}, false)
			}
		}
		for _, torn := range []int64{0, 1, math.MaxInt64} {
			want, _ := plainCrash(d, places(int(n)), torn)
			wantCrashed(t, "all", d, places(int(n)), torn, want, true)
			wantCrashed(t, "none", d, []int64{}, torn, diskOf(d.Safe), true)
		}
	}
}

func TestCrashesWithTooMuch(t *testing.T) {
	d := diskOf(filesOf("a", letters(100000)), removeOp("a"), appendOp("b", letters(100001)), removeOp("b"))
	wantCrashed(t, "200001 bytes at the end", d, []int64{1}, 100001, impl.Disk{}, false)
	wantCrashed(t, "200001 bytes at the end", d, []int64{1}, math.MaxInt64, impl.Disk{}, false)
	wantLeft(t, "just 200000 bytes", d, []int64{1}, 100000, "a", letters(100000), "b", letters(100000))
	wantLeft(t, "199999 bytes", d, []int64{1}, 99999, "a", letters(100000), "b", letters(99999))
	wantLeft(t, "too many bytes on the way alone", d, []int64{1, 2}, 0, "a", letters(100000))
	wantLeft(t, "the remove kept", d, []int64{0, 1}, 100001, "b", letters(100001))
	turns := diskOf(nil, slices.Repeat([]impl.DOp{appendOp("a", letters(200000)), removeOp("a")}, 100)...)
	var appends []int64
	for i := range int64(100) {
		appends = append(appends, 2*i)
	}
	wantCrashed(t, "20000000 bytes", turns, appends, math.MaxInt64, impl.Disk{}, false)
	wantLeft(t, "20000000 bytes on the way", turns, append(slices.Clone(appends), 199), 0)
	wantLeft(t, "200000 bytes and none", turns, []int64{0, 2}, 0, "a", letters(200000))
	wantCrashed(t, "200000 bytes and one", turns, []int64{0, 2}, 1, impl.Disk{}, false)
	full := diskOf(someFiles(60, 0), removeOp("f00"), appendOp("new", "1"), removeOp("new"), appendOp("other", "2"), renameOp("other", "f30"))
	wantCrashed(t, "61 files at the end", full, []int64{1}, 1, impl.Disk{}, false)
	wantCrashed(t, "61 files at the end, the last one empty", full, []int64{1}, 0, impl.Disk{}, false)
	wantCrashed(t, "61 files on the way alone", full, []int64{1, 2}, 0, diskOf(someFiles(60, 0)), true)
	want, _ := plainCrash(full, []int64{3, 4}, 0)
	wantCrashed(t, "61 files on the way, renamed", full, []int64{3, 4}, 0, want, true)
	want, _ = plainCrash(full, []int64{0, 1}, 0)
	wantCrashed(t, "60 files at the end", full, []int64{0, 1}, 0, want, true)
	wantCrashed(t, "61 files at the end, two made", full, []int64{0, 1, 3}, 0, impl.Disk{}, false)
}

func TestCrashesByTheWords(t *testing.T) {
	for _, d := range rightDisks() {
		n := len(d.Ops)
		wantCrashed(t, "all", d, places(n), math.MaxInt64, diskOf(d.Live), true)
		wantCrashed(t, "none", d, nil, 3, diskOf(d.Safe), true)
		for place := range n {
			want, ok := plainCrash(d, []int64{int64(place)}, 1)
			wantCrashed(t, "each one alone", d, []int64{int64(place)}, 1, want, ok)
		}
		if n > 8 {
			continue
		}
		for _, keep := range subsets(n) {
			for _, torn := range []int64{0, 1, 2, 1000000} {
				want, ok := plainCrash(d, keep, torn)
				wantCrashed(t, "by the words", d, keep, torn, want, ok)
			}
		}
	}
}

func wantFile(t *testing.T, d impl.Disk, name, data string) {
	t.Helper()
	given, room := diskRoom(d)
	_, kept := diskRoom(d)
	if got, ok := impl.ReadFile(given, name); !ok || got != data || !sameDisk(room, kept) {
		t.Errorf("ReadFile of %.20q on a %s: %.40q, %v; want %.40q", name, shownDisk(d), got, ok, data)
	}
}

func wantNoFile(t *testing.T, why string, d impl.Disk, name string) {
	t.Helper()
	if got, ok := impl.ReadFile(d, name); ok || got != "" {
		t.Errorf("ReadFile, %s: of %.20q on a %s: %.40q, %v", why, name, shownDisk(d), got, ok)
	}
}

func TestReadFile(t *testing.T) {
	for _, d := range rightDisks() {
		for _, f := range d.Live {
			wantFile(t, d, f.Name, f.Data)
		}
		for _, name := range []string{"", "none", "f", "f0", "f000", letters(99), letters(101), "ab", "\x00\x00\x00", "\xff\xff"} {
			wantNoFile(t, "no such file", d, name)
		}
		for _, f := range d.Safe {
			if !slices.ContainsFunc(d.Live, func(g impl.File) bool { return g.Name == f.Name }) {
				wantNoFile(t, "in Safe alone", d, f.Name)
			}
		}
	}
	d := diskOf(filesOf("a", "", "b", "old"), appendOp("b", "er"), appendOp("c", "new"))
	wantFile(t, d, "a", "")
	wantFile(t, d, "b", "older")
	wantFile(t, d, "c", "new")
}

func wantReplaced(t *testing.T, why string, d impl.Disk, name, data string, want impl.Disk, wantCode int64) {
	t.Helper()
	wantDisk(t, fmt.Sprintf("Replace, %s: of %.20q (%d)", why, name, len(name)), d, want, func(d impl.Disk) impl.Disk {
		got, code := impl.Replace(d, name, data)
		if code != wantCode {
			t.Errorf("Replace, %s: of %.20q (%d), %d bytes on a %s: %d; want %d", why, name, len(name), len(data), shownDisk(d), code, wantCode)
		}
		return got
	})
}

// wantReplaces: these ops behind those of d.
func wantReplaces(t *testing.T, why string, d impl.Disk, name, data string, ops ...impl.DOp) {
	t.Helper()
	want := diskOf(d.Safe, append(slices.Clone(d.Ops), ops...)...)
	wantReplaced(t, why, d, name, data, want, impl.DkOk)
	wantDiskOk(t, "behind Replace, "+why, want, true)
	wantFile(t, want, name, data)
	wantNoFile(t, "behind Replace, "+why, want, name+".new")
}

func TestReplace(t *testing.T) {
	for _, data := range []string{"", "1", "new", letters(1000), letters(100000)} {
		for _, d := range []impl.Disk{{}, syncedDisk("log", "old"), syncedDisk("a", "1", "log", "", "z", "2"), diskOf(filesOf("log", "old"), appendOp("log", "er")), diskOf(filesOf("log", "old"), removeOp("log")), syncedDisk(".new", "1", "lo.new", "2", "log.news", "3")} {
			wantReplaces(t, "no such file", d, "log", data, appendOp("log.new", data), renameOp("log.new", "log"))
		}
		for _, d := range []impl.Disk{syncedDisk("log.new", "left"), syncedDisk("log", "old", "log.new", "left"), syncedDisk("log.new", ""), diskOf(filesOf("log", "old"), appendOp("log.new", "le"), appendOp("log.new", "ft")), diskOf(filesOf("a", "1"), renameOp("a", "log.new"))} {
			wantReplaces(t, "such a file", d, "log", data, removeOp("log.new"), appendOp("log.new", data), renameOp("log.new", "log"))
		}
		removed := diskOf(filesOf("log.new", "left"), removeOp("log.new"))
		wantReplaces(t, "such a file in Safe alone", removed, "log", data, appendOp("log.new", data), renameOp("log.new", "log"))
	}
	wantReplaces(t, "a name that ends so itself", syncedDisk("a.new", "1"), "a.new", "2", appendOp("a.new.new", "2"), renameOp("a.new.new", "a.new"))
	for _, n := range []int{1, 95, 96} {
		name := letters(n)
		wantReplaces(t, "a name of some length", syncedDisk(name, "1"), name, "2", appendOp(name+".new", "2"), renameOp(name+".new", name))
		wantReplaces(t, "a name of some length", syncedDisk(name+".new", "1"), name, "2", removeOp(name+".new"), appendOp(name+".new", "2"), renameOp(name+".new", name))
	}
}

func TestReplacesThatAreRefused(t *testing.T) {
	for _, n := range []int{97, 98, 100, 101, 1000} {
		for _, d := range []impl.Disk{{}, syncedDisk("a", "1"), syncedDisk(letters(min(n, 100)), "1"), diskOf(nil, manyOps(200)...), diskOf(someFiles(60, 0))} {
			wantReplaced(t, "a long name", d, letters(n), "2", d, impl.DkForm)
		}
	}
	for _, d := range []impl.Disk{{}, syncedDisk("a", "1"), syncedDisk(".new", "1"), diskOf(nil, appendOp("a", "1"))} {
		wantReplaced(t, "no name: the rename is refused", d, "", "2", d, impl.DkForm)
	}
	turns := func(n int, files ...string) impl.Disk {
		return diskOf(filesOf(files...), slices.Repeat([]impl.DOp{renameOp(files[0], files[0])}, n)...)
	}
	for _, c := range []struct {
		why string
		d   impl.Disk
	}{
		{"the remove finds no Ops left", turns(200, "log", "old", "log.new", "left")},
		{"the append finds no Ops left", turns(199, "log", "old", "log.new", "left")},
		{"the rename finds no Ops left", turns(198, "log", "old", "log.new", "left")},
		{"the append finds no Ops left, no such file", turns(200, "log", "old")},
		{"the rename finds no Ops left, no such file", turns(199, "log", "old")},
		{"the append finds 60 files", diskOf(append(someFiles(59, 0), filesOf("log", "old")...))},
		{"the append finds 199998 bytes", syncedDisk("a", letters(199995), "log", "old")},
		{"the append finds too many bytes, no file log", syncedDisk("a", letters(199998))},
		{"the append finds too many bytes behind the remove", syncedDisk("a", letters(199998), "log.new", "x")},
	} {
		wantDiskOk(t, c.why, c.d, true)
		wantReplaced(t, c.why, c.d, "log", "new", c.d, impl.DkFull)
	}
	rename, left := []impl.DOp{appendOp("log.new", "new"), renameOp("log.new", "log")}, removeOp("log.new")
	wantReplaces(t, "just Ops enough", turns(197, "log", "old", "log.new", "left"), "log", "new", append([]impl.DOp{left}, rename...)...)
	wantReplaces(t, "just Ops enough, no such file", turns(198, "log", "old"), "log", "new", rename...)
	wantReplaces(t, "the 60th file", diskOf(append(someFiles(58, 0), filesOf("log", "old")...)), "log", "new", rename...)
	wantReplaces(t, "60 files with such a file", diskOf(append(someFiles(58, 0), filesOf("log", "old", "log.new", "left")...)), "log", "new", append([]impl.DOp{left}, rename...)...)
	wantReplaces(t, "just 200000 bytes", syncedDisk("a", letters(199994), "log", "old"), "log", "new", rename...)
	wantReplaces(t, "just 200000 bytes behind the remove", syncedDisk("a", letters(199994), "log", "old", "log.new", "six"), "log", "new", append([]impl.DOp{left}, rename...)...)
	form := diskOf(filesOf(".new", "1"), slices.Repeat([]impl.DOp{renameOp(".new", ".new")}, 199)...)
	wantReplaced(t, "the append is refused ahead of the rename", form, "", "2", form, impl.DkFull)
}

// Whatever of Replace is kept, and however much of its last op: the file is the old one or the new one.
func TestReplacedFilesAreOldOrNew(t *testing.T) {
	for _, d := range []impl.Disk{{}, syncedDisk("log", "old"), syncedDisk("a", "1", "log", "", "z", ""), syncedDisk("log", letters(300), "new", "x"), diskOf(someFiles(59, 3))} {
		old, had := impl.ReadFile(d, "log")
		for _, data := range []string{"", "n", "newer", "old", "older"} {
			then, code := impl.Replace(d, "log", data)
			if code != impl.DkOk || len(then.Ops) != 2 {
				t.Fatalf("Replace: %d, a %s", code, shownDisk(then))
			}
			for _, keep := range subsets(len(then.Ops)) {
				for torn := range int64(len(data) + 2) {
					left, ok := impl.Crash(then, keep, torn)
					got, has := impl.ReadFile(left, "log")
					isOld, isNew := has == had && got == old, has && got == data
					if !ok || !isOld && !isNew || len(keep) == 2 && !isNew || len(keep) < 2 && !isOld {
						t.Errorf("Replace of %q by %q, kept %v, torn %d: %q, %v, %v", old, data, keep, torn, got, has, ok)
					}
					for _, f := range d.Live {
						if f.Name != "log" {
							wantFile(t, left, f.Name, f.Data)
						}
					}
				}
			}
		}
	}
}

func randomDOp(source *rand.Rand) impl.DOp {
	name := func() string { return []string{"a", "b", "c", "a.new", "log"}[source.Intn(5)] }
	switch source.Intn(6) {
	case 0:
		return removeOp(name())
	case 1, 2:
		return renameOp(name(), name())
	}
	return appendOp(name(), []string{"", "1", "22", "333", letters(99999)}[source.Intn(5)])
}

// plainDo: by the document's words, where d is right and op of its form.
func plainDo(d impl.Disk, op impl.DOp) (impl.Disk, int64) {
	live, found := plainDone(d.Live, op)
	switch {
	case !found:
		return d, impl.DkNone
	case len(d.Ops) == 200 || !plainFits(live):
		return d, impl.DkFull
	}
	return impl.Disk{Live: live, Safe: d.Safe, Ops: append(slices.Clone(d.Ops), op)}, impl.DkOk
}

func TestDisksByTheWords(t *testing.T) {
	source := rand.New(rand.NewSource(21))
	codes := map[int64]int{}
	crashes := map[bool]int{}
	for range 30 {
		d := impl.Disk{}
		for range 40 {
			op := randomDOp(source)
			want, code := plainDo(d, op)
			wantDone(t, "by the words", d, op, want, code)
			codes[code]++
			d, _ = impl.Do(d, op)
			wantDiskOk(t, "by the words", d, true)
			var keep []int64
			for place := range int64(len(d.Ops)) {
				if source.Intn(3) > 0 {
					keep = append(keep, place)
				}
			}
			torn := int64(source.Intn(4))
			left, ok := plainCrash(d, keep, torn)
			wantCrashed(t, "by the words", d, keep, torn, left, ok)
			wantCrashed(t, "all kept", d, places(len(d.Ops)), math.MaxInt64, diskOf(d.Live), true)
			wantCrashed(t, "none kept", d, nil, torn, diskOf(d.Safe), true)
			crashes[ok]++
			if source.Intn(12) == 0 {
				d = impl.Sync(d)
			} else if source.Intn(12) == 0 && ok {
				d = left
			}
		}
	}
	if codes[impl.DkOk] < 400 || codes[impl.DkNone] < 100 || codes[impl.DkFull] < 20 || crashes[false] < 8 {
		t.Errorf("codes %v, crashes %v", codes, crashes)
	}
}
