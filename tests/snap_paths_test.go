package tests

import (
	"fmt"
	"math"
	"slices"
	"strings"
	"testing"

	"loop.example/s02533/impl"
)

// gallery is a machine whose snapshot "one" has files, directories and links of many
// kinds, owned by some users; the state is quite another. It tells the snapshot's state
// and that of the volume too.
func gallery(t *testing.T, log int) (impl.Machine, impl.State, impl.State) {
	t.Helper()
	ops := []impl.Op{
		on(impl.OpMkdir, "/d", 0o755), on(impl.OpMkdir, "/d/e", 0o777), on(impl.OpCreate, "/d/f", 0o644), writing("/d/f", 0, "in the snapshot"), writing("/d/f", 1200, "far"),
		two(impl.OpSymlink, "/l", "d/f"), two(impl.OpSymlink, "/abs", "/d/f"), two(impl.OpSymlink, "/d/up", "../l"), two(impl.OpSymlink, "/d/e/over", "../../../../d"), two(impl.OpSymlink, "/loop", "/loop"),
		two(impl.OpSymlink, "/gone", "nobody"), two(impl.OpSymlink, "/in", "/.snapshot/one/d/f"), two(impl.OpSymlink, "/snaps", ".snapshot"), two(impl.OpSymlink, "/top", "/"), two(impl.OpLink, "/d/f", "/d/e/same"),
		by(0, 0, on(impl.OpChmod, "/", 0o777)), by(5, 6, on(impl.OpMkdir, "/private", 0o750)), by(5, 6, on(impl.OpCreate, "/private/letter", 0o640)), by(5, 6, writing("/private/letter", 0, "dear")), by(5, 6, on(impl.OpCreate, "/secret", 0)),
		taking("one"),
	}
	k := newKeeper().following(ops...)
	later := []impl.Op{
		on(impl.OpTruncate, "/d/f", 3), on(impl.OpUnlink, "/abs"), on(impl.OpUnlink, "/d/e/same"), on(impl.OpUnlink, "/d/e/over"), on(impl.OpRmdir, "/d/e"), on(impl.OpChmod, "/private", 0o777), on(impl.OpChmod, "/private/letter", 0o666),
		on(impl.OpChmod, "/secret", 0o777), on(impl.OpChmod, "/d", 0), on(impl.OpMkdir, "/new", 0o755), point,
	}
	all := append(ops, later...)
	out := codesAre(t, "a gallery", made(t, 100, 0, log), all, slices.Repeat([]int{0}, len(all))...)
	k2 := k.following(later...)
	return k2.mountsAs(t, "a gallery", out.Machine), k.snaps["one"], k2.s
}

// looking are operations of a kind from 12 to 17 at a path, with numbers that are right,
// at the edge, and never right.
func looking(path string) []impl.Op {
	list := []impl.Op{}
	for kind := impl.OpRead; kind <= impl.OpSeek; kind++ {
		for _, n := range [][2]int{{0, 9}, {0, 0}, {0, 1}, {600, 0}, {1203, 1}, {-1, 1}, {0, -1}, {math.MaxInt, math.MaxInt}, {math.MinInt, 0}} {
			list = append(list, on(kind, path, n[0], n[1]))
		}
	}
	return list
}

// looksLike asks that what is told at a path is what a state tells at another one.
func looksLike(t *testing.T, m impl.Machine, path string, s impl.State, inside string, users ...[2]int) {
	t.Helper()
	ops := []impl.Op{}
	for _, user := range append(users, [2]int{0, 0}) {
		for _, op := range looking(path) {
			ops = append(ops, by(user[0], user[1], op))
		}
	}
	out := codesAre(t, path, m, ops)
	for k, op := range ops {
		op.Path = inside
		if _, want := plainApply(s, op); !sameAns(out.Answers[k], want) {
			t.Errorf("%.60q (%s): %s, want %s", path, tellOp(op), tellAns(out.Answers[k]), tellAns(want))
		}
	}
	if !sameMachine(out.Machine, m) {
		t.Errorf("%.60q: looking changes the machine", path)
	}
}

// The directory in which the snapshots are found, by every way to write it.
func TestLookingAtTheDirectoryOfSnapshots(t *testing.T) {
	m, _, _ := gallery(t, 8192)
	stat := impl.Ans{Stat: impl.Stat{Kind: impl.KindDir, Links: 2, Mode: 0o555}}
	directory := map[int]impl.Ans{impl.OpRead: {Code: impl.ErrIsDir}, impl.OpReadlink: {Code: impl.ErrInval}, impl.OpStat: stat, impl.OpLstat: stat, impl.OpSeek: {Code: impl.ErrIsDir}}
	for many, machine := range []impl.Machine{made(t, 64, 0, 0), m} {
		directory[impl.OpList] = impl.Ans{N: many, Names: []impl.Dirent{{Name: "one", Ino: 1, Kind: impl.KindDir}}[:many]}
		for _, path := range []string{"/.snapshot", "/.snapshot/", "//.snapshot", "///.snapshot///", strings.Repeat("/", 503) + ".snapshot"} {
			for _, user := range [][2]int{{0, 0}, {5, 6}, {65535, 65535}, {-1, 0}, {5, 65536}} {
				ops := []impl.Op{}
				for _, op := range looking(path) {
					ops = append(ops, by(user[0], user[1], op))
				}
				out := codesAre(t, path, machine, ops)
				for k, op := range ops {
					want := directory[op.Kind]
					if user[0] < 0 || user[1] > 65535 {
						want = impl.Ans{Code: impl.ErrInval}
					}
					if !sameAns(out.Answers[k], want) {
						t.Errorf("%.60q (%s): %s, want %s", path, tellOp(op), tellAns(out.Answers[k]), tellAns(want))
					}
				}
				if !sameMachine(out.Machine, machine) {
					t.Errorf("%.60q: looking changes the machine", path)
				}
			}
		}
	}
}

// At a snapshot and below it: what is told is what its state tells at the path of the
// other names.
func TestLookingIntoASnapshot(t *testing.T) {
	t.Parallel()
	m, s, _ := gallery(t, 8192)
	users := [][2]int{{5, 6}, {7, 6}, {7, 7}}
	for path, inside := range map[string]string{
		"/.snapshot/one": "/", "/.snapshot/one/": "/", "//.snapshot///one//": "/", "/.snapshot/one/.": "/", "/.snapshot/one/..": "/", "/.snapshot/one/../..": "/", "/.snapshot/one/../.": "/",
		"/.snapshot/one/d": "/d", "/.snapshot/one/d/": "/d", "/.snapshot/one//d//f": "/d/f", "/.snapshot/one/d/f": "/d/f", "/.snapshot/one/d/f/": "/d/f", "/.snapshot/one/d/f/.": "/d/f/.", "/.snapshot/one/d/f/x": "/d/f/x",
		"/.snapshot/one/../d/./../d/f": "/d/f", "/.snapshot/one/../one": "/one", "/.snapshot/one/../../one/d": "/one/d", "/.snapshot/one/nobody": "/nobody", "/.snapshot/one/d/nobody/x": "/d/nobody/x",
		"/.snapshot/one/new": "/new", "/.snapshot/one/d/e": "/d/e", "/.snapshot/one/d/e/same": "/d/e/same", "/.snapshot/one/.snapshot": "/.snapshot", "/.snapshot/one/.snapshot/one/d": "/.snapshot/one/d",
		"/.snapshot/one/l": "/l", "/.snapshot/one/l/": "/l", "/.snapshot/one/l/.": "/l/.", "/.snapshot/one/abs": "/abs", "/.snapshot/one/d/up": "/d/up", "/.snapshot/one/d/e/over": "/d/e/over", "/.snapshot/one/d/e/over/f": "/d/e/over/f",
		"/.snapshot/one/loop": "/loop", "/.snapshot/one/loop/x": "/loop/x", "/.snapshot/one/gone": "/gone", "/.snapshot/one/in": "/in", "/.snapshot/one/snaps": "/snaps", "/.snapshot/one/snaps/one/d": "/snaps/one/d", "/.snapshot/one/top/d/f": "/top/d/f",
		"/.snapshot/one/private": "/private", "/.snapshot/one/private/letter": "/private/letter", "/.snapshot/one/secret": "/secret",
	} {
		looksLike(t, m, path, s, inside, users...)
	}
}

// What is told in a snapshot, written out.
func TestWhatASnapshotTells(t *testing.T) {
	m, s, _ := gallery(t, 0)
	data := "in the snapshot"
	stat := func(number int) impl.Ans {
		n := s.Nodes[number]
		return impl.Ans{Stat: impl.Stat{Ino: number, Kind: n.Kind, Links: n.Links, Mode: n.Mode, Uid: n.Uid, Gid: n.Gid, Size: len(n.Data), Gen: n.Gen, Mtime: n.Mtime, Ctime: n.Ctime}}
	}
	top := []impl.Dirent{{Name: "abs", Ino: 6, Kind: 3}, {Name: "d", Ino: 2, Kind: 2}, {Name: "gone", Ino: 10, Kind: 3}, {Name: "in", Ino: 11, Kind: 3}, {Name: "l", Ino: 5, Kind: 3}, {Name: "loop", Ino: 9, Kind: 3},
		{Name: "private", Ino: 14, Kind: 2}, {Name: "secret", Ino: 16, Kind: 1}, {Name: "snaps", Ino: 12, Kind: 3}, {Name: "top", Ino: 13, Kind: 3}}
	for _, c := range []struct {
		op   impl.Op
		want impl.Ans
	}{
		{on(impl.OpRead, "/.snapshot/one/d/f", 0, 15), impl.Ans{N: 15, Data: []byte(data)}},
		{on(impl.OpRead, "/.snapshot/one/d/f", 1200, 99), impl.Ans{N: 3, Data: []byte("far")}},
		{on(impl.OpRead, "/.snapshot/one/d/f", 1203, 99), impl.Ans{}},
		{on(impl.OpRead, "/.snapshot/one/d/up", 7, 8), impl.Ans{N: 8, Data: []byte("snapshot")}},
		{on(impl.OpRead, "/.snapshot/one/d/e/over/f", 0, 2), impl.Ans{N: 2, Data: []byte("in")}},
		{on(impl.OpReadlink, "/.snapshot/one/in"), impl.Ans{N: 18, Data: []byte("/.snapshot/one/d/f")}},
		{on(impl.OpStat, "/.snapshot/one"), stat(1)},
		{on(impl.OpLstat, "/.snapshot/one/.."), stat(1)},
		{on(impl.OpStat, "/.snapshot/one/l"), stat(4)},
		{on(impl.OpLstat, "/.snapshot/one/l"), stat(5)},
		{on(impl.OpStat, "/.snapshot/one/d/e/same"), stat(4)},
		{on(impl.OpList, "/.snapshot/one"), impl.Ans{N: 10, Names: top}},
		{on(impl.OpList, "/.snapshot/one/top"), impl.Ans{N: 10, Names: top}},
		{on(impl.OpSeek, "/.snapshot/one/d/f", 0, 1), impl.Ans{N: 512}},
		{on(impl.OpSeek, "/.snapshot/one/abs", 512, 0), impl.Ans{N: 1024}},
		{on(impl.OpRead, "/.snapshot/one/in", 0, 9), impl.Ans{Code: impl.ErrNoEnt}},
		{on(impl.OpList, "/.snapshot/one/snaps"), impl.Ans{Code: impl.ErrNoEnt}},
		{on(impl.OpStat, "/.snapshot/one/loop"), impl.Ans{Code: impl.ErrLoop}},
		{on(impl.OpStat, "/.snapshot/one/d/f/."), impl.Ans{Code: impl.ErrNotDir}},
		{on(impl.OpList, "/.snapshot/one/d/f"), impl.Ans{Code: impl.ErrNotDir}},
		{on(impl.OpRead, "/.snapshot/one", 0, 1), impl.Ans{Code: impl.ErrIsDir}},
		{on(impl.OpReadlink, "/.snapshot/one"), impl.Ans{Code: impl.ErrInval}},
		{on(impl.OpSeek, "/.snapshot/one/d/f", 1203, 0), impl.Ans{Code: impl.ErrInval}},
	} {
		if out := codesAre(t, "told", m, []impl.Op{c.op}); !sameAns(out.Answers[0], c.want) {
			t.Errorf("%s: %s, want %s", tellOp(c.op), tellAns(out.Answers[0]), tellAns(c.want))
		}
	}
	if s.Nodes[4].Links != 2 || stat(4).Stat.Size != 1203 {
		t.Errorf("the test's own file has %d links", s.Nodes[4].Links)
	}
}

// allAre asks that operations are all refused with one code, whoever asks, and that they
// change nothing.
func allAre(t *testing.T, name string, m impl.Machine, code int, ops []impl.Op) {
	t.Helper()
	for _, op := range slices.Clone(ops) {
		ops = append(ops, by(5, 5, op))
	}
	out := codesAre(t, name, m, ops)
	for k, op := range ops {
		if !sameAns(out.Answers[k], impl.Ans{Code: code}) {
			t.Errorf("%s (%s): %s, want code %d", name, tellOp(op), tellAns(out.Answers[k]), code)
		}
	}
	if !sameMachine(out.Machine, m) {
		t.Errorf("%s: something has changed: %s", name, tellMachine(out.Machine, m))
	}
}

// A name that no snapshot has, whatever is asked; and a snapshot that can't be read.
func TestLookingAtNoSnapshot(t *testing.T) {
	m, _, _ := gallery(t, 8192)
	for _, name := range []string{"two", "ONE", "on", "onee", ".", "..", ".snapshot", strings.Repeat("x", 26), "one\xff", " "} {
		for _, rest := range []string{"", "/", "/d/f", "/..", "/../one/d", "/one"} {
			allAre(t, name, m, impl.ErrNoEnt, looking("/.snapshot/"+name+rest))
		}
	}
	bad := hollow(t, false)
	for _, rest := range []string{"", "/", "/f", "/nobody"} {
		allAre(t, "hollow", bad, impl.ErrCorrupt, looking("/.snapshot/bad"+rest))
	}
	codesAre(t, "beside it", bad, []impl.Op{on(impl.OpRead, "/.snapshot/one/f", 0, 9), on(impl.OpList, "/.snapshot"), snapshots, statfs, restoring("one"), dropping("bad"), on(impl.OpStat, "/.snapshot/bad")}, 0, 0, 0, 0, 0, 0, impl.ErrNoEnt)
	// A snapshot that has been deleted, and one that was made anew under its name.
	out := codesAre(t, "anew", m, []impl.Op{dropping("one"), on(impl.OpStat, "/.snapshot/one/d"), on(impl.OpList, "/.snapshot/one"), taking("one"), on(impl.OpStat, "/.snapshot/one/new"), on(impl.OpStat, "/.snapshot/one/abs")},
		0, impl.ErrNoEnt, impl.ErrNoEnt, 0, 0, impl.ErrNoEnt)
	if out.Answers[3].N != 1 {
		t.Errorf("anew: %s", tellAns(out.Answers[3]))
	}
}

// Paths that lead to nothing but the state, though they have the name in them: their first
// name is another, or SplitPath refuses them.
func TestPathsThatAreNoSnapshotPaths(t *testing.T) {
	m, _, s := gallery(t, 8192)
	for _, path := range []string{"", "/", ".snapshot", ".snapshot/one", "./.snapshot", "/./.snapshot", "/../.snapshot/one", "/new/../.snapshot/one", "/new/.snapshot", "/.snapshot\x00", "/.snapshot/one\x00", "/.snapshots", "/.Snapshot/one", "/snapshot", "/. snapshot",
		"/.snapshot/" + strings.Repeat("x", 27), "/.snapshot/one/" + strings.Repeat("x", 27), "/.snapshot" + strings.Repeat("/x", 40), strings.Repeat("/", 504) + ".snapshot", "/snaps", "/snaps/one", "/snaps/one/d/f", "/in", "/in/x", "/top/.snapshot", "/top/.snapshot/one"} {
		looksLike(t, m, path, s, path, [2]int{5, 6})
		for _, op := range eachKind()[:11] {
			op.Path = path
			next, want := plainApply(s, op)
			out := codesAre(t, path, m, []impl.Op{op})
			if !sameAns(out.Answers[0], want) {
				t.Errorf("%.60q (%s): %s, want %s", path, tellOp(op), tellAns(out.Answers[0]), tellAns(want))
			}
			if got := stateOf(t, path, out.Machine); !sameState(got, next) {
				t.Errorf("%.60q (%s): another state is left", path, tellOp(op))
			}
		}
	}
}

// Forty names are a path, and so are 512 bytes: in a snapshot two and eleven of them are
// its own.
func TestLongPathsIntoSnapshots(t *testing.T) {
	m, s, _ := gallery(t, 0)
	for path, inside := range map[string]string{
		"/.snapshot/one" + strings.Repeat("/.", 37) + "/d":                          "/d",
		"/.snapshot/one" + strings.Repeat("/..", 36) + "/d/f":                       "/d/f",
		"/.snapshot/one" + strings.Repeat("/", 497) + "l":                           "/l",
		"/.snapshot/one/d" + strings.Repeat("/", 495) + "f":                         "/d/f",
		"/.snapshot/one/" + strings.Repeat("x", 26) + "/" + strings.Repeat("y", 26): "/x/y",
	} {
		looksLike(t, m, path, s, inside)
		if _, names := plainSnapshotPath(path); !names || len(path) > 512 {
			t.Errorf("the test's own path of %d bytes isn't one", len(path))
		}
	}
	for _, path := range []string{"/.snapshot/one" + strings.Repeat("/.", 39), "/.snapshot/one" + strings.Repeat("/", 498) + "l"} {
		allAre(t, "too long", m, impl.ErrNameLong, append(looking(path), on(impl.OpUnlink, path), on(impl.OpMkdir, path)))
	}
}

// A symbolic link of the state whose target is a snapshot path leads nowhere, since the
// state has no such entry; the link itself is made, read and taken away like any other.
func TestLinksToSnapshotPaths(t *testing.T) {
	m, _, _ := gallery(t, 8192)
	for _, target := range []string{"/.snapshot", "/.snapshot/one", "/.snapshot/one/d/f", ".snapshot/one", "./.snapshot", "/new/../.snapshot/one", "//.snapshot//one//"} {
		link := two(impl.OpSymlink, "/link", target)
		out := codesAre(t, target, m, []impl.Op{link, on(impl.OpReadlink, "/link"), on(impl.OpLstat, "/link"), taking("two"), on(impl.OpReadlink, "/.snapshot/two/link"), on(impl.OpStat, "/.snapshot/two/link"),
			on(impl.OpStat, "/link"), on(impl.OpRead, "/link", 0, 9), on(impl.OpList, "/link"), on(impl.OpSeek, "/link", 0, 0), on(impl.OpStat, "/link/one"), on(impl.OpList, "/link/."),
			writing("/link", 0, "x"), on(impl.OpTruncate, "/link", 0), on(impl.OpChmod, "/link", 0), on(impl.OpCreate, "/link/x"), on(impl.OpMkdir, "/link/x"), on(impl.OpUnlink, "/link/one"), on(impl.OpRmdir, "/link/one"),
			two(impl.OpRename, "/d/f", "/link/f"), two(impl.OpLink, "/d/f", "/link/f"), on(impl.OpChown, "/link", 5, 5), two(impl.OpRename, "/link", "/moved"), on(impl.OpUnlink, "/moved")},
			0, 0, 0, 0, 0, impl.ErrNoEnt, impl.ErrNoEnt, impl.ErrNoEnt, impl.ErrNoEnt, impl.ErrNoEnt, impl.ErrNoEnt, impl.ErrNoEnt,
			impl.ErrNoEnt, impl.ErrNoEnt, impl.ErrNoEnt, impl.ErrNoEnt, impl.ErrNoEnt, impl.ErrNoEnt, impl.ErrNoEnt, impl.ErrNoEnt, impl.ErrNoEnt, 0, 0, 0)
		if string(out.Answers[1].Data) != target || string(out.Answers[4].Data) != target || out.Answers[2].Stat.Kind != impl.KindLink {
			t.Errorf("%q: read as %q, in a snapshot as %q", target, out.Answers[1].Data, out.Answers[4].Data)
		}
	}
	// A link to the root has the snapshots no more than the root has.
	codesAre(t, "through the root", m, []impl.Op{on(impl.OpStat, "/top/.snapshot"), on(impl.OpCreate, "/top/.snapshot"), on(impl.OpMkdir, "/top/.snapshot"), two(impl.OpSymlink, "/top/.snapshot", "x"), two(impl.OpLink, "/l", "/top/.snapshot"),
		two(impl.OpRename, "/l", "/top/.snapshot"), on(impl.OpUnlink, "/top/.snapshot"), on(impl.OpRmdir, "/./.snapshot"), on(impl.OpMkdir, "/new/.snapshot"), on(impl.OpStat, "/new/.snapshot")},
		impl.ErrNoEnt, impl.ErrRofs, impl.ErrRofs, impl.ErrRofs, impl.ErrRofs, impl.ErrRofs, impl.ErrNoEnt, impl.ErrNoEnt, 0, 0)
}

// Who may read what in a snapshot is told by the modes and owners at its making.
func TestUsersInSnapshots(t *testing.T) {
	m, _, _ := gallery(t, 8192)
	type row struct {
		op           impl.Op
		snap, volume int
	}
	for _, user := range []struct {
		uid, gid int
		rows     []row
	}{
		{0, 9, []row{{on(impl.OpRead, "/private/letter", 0, 9), 0, 0}, {on(impl.OpRead, "/secret", 0, 9), 0, 0}, {on(impl.OpList, "/d"), 0, 0}}},
		{5, 9, []row{{on(impl.OpRead, "/private/letter", 0, 9), 0, 0}, {on(impl.OpRead, "/secret", 0, 9), impl.ErrAccess, 0}, {on(impl.OpSeek, "/secret", 0, 0), impl.ErrAccess, impl.ErrInval}, {on(impl.OpList, "/d"), 0, impl.ErrAccess}, {on(impl.OpStat, "/d/f"), 0, impl.ErrAccess}}},
		{7, 6, []row{{on(impl.OpRead, "/private/letter", 0, 9), 0, 0}, {on(impl.OpList, "/private"), 0, 0}, {on(impl.OpRead, "/secret", 0, 9), impl.ErrAccess, 0}, {on(impl.OpStat, "/secret"), 0, 0}}},
		{7, 7, []row{{on(impl.OpRead, "/private/letter", 0, 9), impl.ErrAccess, 0}, {on(impl.OpStat, "/private/letter"), impl.ErrAccess, 0}, {on(impl.OpLstat, "/private/nobody"), impl.ErrAccess, impl.ErrNoEnt}, {on(impl.OpList, "/private"), impl.ErrAccess, 0},
			{on(impl.OpStat, "/private"), 0, 0}, {on(impl.OpReadlink, "/private/x"), impl.ErrAccess, impl.ErrNoEnt}, {on(impl.OpRead, "/l", 0, 9), 0, impl.ErrAccess}, {on(impl.OpReadlink, "/d/up"), 0, impl.ErrAccess}, {on(impl.OpSeek, "/d/f", 0, 0), 0, impl.ErrAccess}, {on(impl.OpStat, "/d"), 0, 0}}},
	} {
		for _, r := range user.rows {
			inside := r.op
			inside.Path = "/.snapshot/one" + r.op.Path
			codesAre(t, fmt.Sprint("user ", user.uid, ", ", user.gid), m, []impl.Op{by(user.uid, user.gid, inside), by(user.uid, user.gid, r.op)}, r.snap, r.volume)
		}
	}
	// A root that only its owner may search: the snapshot itself is walked to all the same.
	shut := codesAre(t, "shut", m, []impl.Op{on(impl.OpChmod, "/", 0o700), taking("shut"), on(impl.OpChmod, "/", 0o755)}, 0, 0, 0).Machine
	for _, op := range []impl.Op{on(impl.OpStat, "/.snapshot/shut"), on(impl.OpLstat, "/.snapshot/shut/"), on(impl.OpList, "/.snapshot"), on(impl.OpStat, "/.snapshot")} {
		codesAre(t, "shut", shut, []impl.Op{by(7, 7, op)}, 0)
	}
	for _, op := range []impl.Op{on(impl.OpList, "/.snapshot/shut"), on(impl.OpStat, "/.snapshot/shut/."), on(impl.OpStat, "/.snapshot/shut/.."), on(impl.OpRead, "/.snapshot/shut/d/f", 0, 1), on(impl.OpStat, "/.snapshot/shut/nobody")} {
		codesAre(t, "shut", shut, []impl.Op{by(7, 7, op), op}, impl.ErrAccess)
		op.Path = strings.Replace(op.Path, "shut", "one", 1)
		if out := codesAre(t, "open", shut, []impl.Op{by(7, 7, op)}); out.Answers[0].Code == impl.ErrAccess {
			t.Errorf("open (%s): %s", tellOp(op), tellAns(out.Answers[0]))
		}
	}
	// One need not search the volume's own root to look into a snapshot.
	shut = codesAre(t, "shut outside", m, []impl.Op{on(impl.OpChmod, "/", 0)}, 0).Machine
	codesAre(t, "shut outside", shut, []impl.Op{by(7, 7, on(impl.OpStat, "/l")), by(7, 7, on(impl.OpStat, "/.snapshot/one/l")), by(7, 7, on(impl.OpList, "/.snapshot")), by(7, 7, on(impl.OpList, "/.snapshot/one"))}, impl.ErrAccess, 0, 0, 0)
}

// snapshotPaths are paths whose first name is that of the snapshots, in every form.
func snapshotPaths() []string {
	return []string{"/.snapshot", "/.snapshot/", "//.snapshot", "/.snapshot//one", "/.snapshot/one", "/.snapshot/one/", "/.snapshot/one/d", "/.snapshot/one/d/f", "/.snapshot/one/nobody", "/.snapshot/two", "/.snapshot/two/x",
		"/.snapshot/.", "/.snapshot/..", "/.snapshot/../l", "/.snapshot/one/..", "/.snapshot/one/../../l", "/.snapshot/one/l", "/.snapshot/one/top/.", "/.snapshot/.snapshot", strings.Repeat("/", 503) + ".snapshot", "/.snapshot" + strings.Repeat("/x", 39)}
}

// Promise 18: to change what is at a path whose first name is .snapshot is ErrRofs, in
// each kind, ahead of all that the kind itself asks.
func TestChangingWhatIsInSnapshots(t *testing.T) {
	m, _, _ := gallery(t, 8192)
	last := changedRecord(m, func(f *impl.Fsinfo) { f.Clock, f.Ops, f.Gen = impl.MaxClock, impl.MaxClock, impl.MaxClock })
	full := leaving(last, 0)
	for _, path := range snapshotPaths() {
		good, bad := []impl.Op{}, []impl.Op{}
		for kind := impl.OpMkdir; kind <= impl.OpChown; kind++ {
			good = append(good, impl.Op{Kind: kind, Path: path, Path2: "/fresh", A: 1, B: 1, Data: []byte("x")})
			// Numbers and texts that are never right.
			bad = append(bad, impl.Op{Kind: kind, Path: path, Path2: "", A: -1, B: 1 << 40, Data: make([]byte, 5000)})
		}
		for _, machine := range []impl.Machine{m, last, full} {
			allAre(t, path, machine, impl.ErrRofs, slices.Concat(good, bad))
		}
		refused, dark := []impl.Op{}, []impl.Op{on(impl.OpChmod, "/", 0), fuseOf(0), point}
		for _, op := range slices.Concat(good, bad) {
			refused = append(refused, by(-1, 0, op), by(0, 65536, op))
			dark = append(dark, op)
		}
		out := codesAre(t, path, m, refused, slices.Repeat([]int{impl.ErrInval}, len(refused))...)
		if !sameMachine(out.Machine, m) {
			t.Errorf("%.60q: something has changed", path)
		}
		codesAre(t, path, m, dark, append([]int{0, 0}, slices.Repeat([]int{impl.ErrPower}, len(dark)-2)...)...)
	}
}

// A snapshot path in Path2 refuses Link and Rename alone; in every other kind, and in every
// other field, it is no path.
func TestSnapshotPathsInOtherFields(t *testing.T) {
	m, _, s := gallery(t, 8192)
	for _, path := range snapshotPaths() {
		for _, kind := range []int{impl.OpLink, impl.OpRename} {
			ops := []impl.Op{}
			for _, from := range []string{"/l", "/d/f", "/d", "/nobody", "", "/", "/l/x", "/.", path} {
				ops = append(ops, two(kind, from, path))
			}
			allAre(t, path, m, impl.ErrRofs, ops)
			refusedWith(t, path, m, impl.ErrInval, by(0, -1, two(kind, "/l", path)))
		}
		for _, op := range []impl.Op{on(impl.OpMkdir, "/x", 0), on(impl.OpCreate, "/x"), on(impl.OpUnlink, "/l"), on(impl.OpRmdir, "/new"), writing("/d/f", 0, path), on(impl.OpTruncate, "/d/f", 1), on(impl.OpChmod, "/d", 1), on(impl.OpChown, "/d", 1, 1),
			on(impl.OpRead, "/l", 0, 9), on(impl.OpReadlink, "/l"), on(impl.OpStat, "/l"), on(impl.OpLstat, "/l"), on(impl.OpList, "/d"), on(impl.OpSeek, "/l", 0, 0), two(impl.OpSymlink, "/x", path), two(impl.OpLink, "/l", "/x"), two(impl.OpRename, "/l", "/x")} {
			odd := otherFields(op, impl.Op{Path: path, Path2: path, Data: []byte(path)})
			next, want := plainApply(s, op)
			if op.Kind == impl.OpSymlink && len(path) > impl.MaxTarget {
				want = impl.Ans{Code: impl.ErrInval}
			}
			out := codesAre(t, path, m, []impl.Op{odd}, want.Code)
			if !sameAns(out.Answers[0], want) || !sameState(stateOf(t, path, out.Machine), next) {
				t.Errorf("%.60q (%s): %s, want %s", path, tellOp(odd), tellAns(out.Answers[0]), tellAns(want))
			}
		}
		for _, op := range []impl.Op{taking("new"), dropping("one"), restoring("one"), snapshots, point, statfs} {
			odd := otherFields(op, impl.Op{Path: path, Path2: path, Data: []byte(path), A: -1})
			one, two := codesAre(t, path, m, []impl.Op{op, statfs}, 0, 0), codesAre(t, path, m, []impl.Op{odd, statfs}, 0, 0)
			if !sameAns(one.Answers[0], two.Answers[0]) || !sameMachine(one.Machine, two.Machine) {
				t.Errorf("%.60q (%s): %s, want %s", path, tellOp(odd), tellAns(two.Answers[0]), tellAns(one.Answers[0]))
			}
		}
		// As the name of a snapshot it is none.
		for _, op := range []impl.Op{dropping(path), restoring(path)} {
			refusedWith(t, path, m, impl.ErrNoEnt, op)
		}
		if code := impl.CheckName(path); code == impl.OK {
			t.Errorf("%q is a name", path)
		} else {
			refusedWith(t, path, m, code, taking(path))
		}
	}
}
