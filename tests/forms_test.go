package tests

import (
	"bytes"
	"encoding/binary"
	"hash/crc32"
	"math"
	"math/rand"
	"strings"
	"testing"

	"loop.example/s02533/impl"
)

// bounds of one field: how many bits it has in the bytes, the values that are
// right at its edges, and those that are one too many.
type bounds struct {
	bits       int
	right, bad []int
}

// holds says whether the bytes of the field tell just n.
func (b bounds) holds(n int) bool { return b.bits == 64 || n >= 0 && n < 1<<b.bits }

// subject holds one thing of each form, of which the tests change one field.
type subject struct {
	root  impl.Root
	inode impl.Inode
	info  impl.Fsinfo
	snap  impl.Snap
}

func newSubject() *subject {
	full := impl.Root{Size: impl.MaxFile, Single: 40, Double: 41}
	for i := range full.Direct {
		full.Direct[i] = 20 + i
	}
	s := &subject{root: full}
	s.inode = impl.Inode{Kind: impl.KindDir, Links: 0x123, Mode: 0x456, Uid: 0x789a, Gid: 0xbcde, Parent: 0x234, Gen: 0x1122334455, Mtime: 0x2233445566, Ctime: 0x3344556677, Root: full}
	s.info = impl.Fsinfo{Gen: 0x1122334455, Blocks: 0x678, Cursor: 0x543, Clock: 0x2233445566, Ops: 0x3344556677, Every: 0x234, Log: 0x2345,
		Ino: impl.Root{Size: 128128, Direct: full.Direct, Single: 0x555, Double: 0x666},
		Map: impl.Root{Size: 4 * 0x678, Direct: full.Direct, Single: 0x444}}
	for i := range s.info.Snaps {
		s.info.Snaps[i] = 0x100 + i
	}
	s.snap = impl.Snap{Plane: 31, Name: "monday", Gen: 0x1122334455, Clock: 0x2233445566, Root: s.info.Ino}
	return s
}

func put16(b []byte, at, n int) { binary.LittleEndian.PutUint16(b[at:], uint16(n)) }
func put32(b []byte, at, n int) { binary.LittleEndian.PutUint32(b[at:], uint32(n)) }
func put64(b []byte, at, n int) { binary.LittleEndian.PutUint64(b[at:], uint64(n)) }

func putRoot(b []byte, at int, r impl.Root) {
	put64(b, at, r.Size)
	for i, p := range r.Direct {
		put32(b, at+8+4*i, p)
	}
	put32(b, at+56, r.Single)
	put32(b, at+60, r.Double)
}

func seal(b []byte) []byte {
	binary.LittleEndian.PutUint32(b[508:], crc32.ChecksumIEEE(b[:508]))
	return b
}

func plainRoot(r impl.Root) []byte {
	b := make([]byte, 64)
	putRoot(b, 0, r)
	return b
}

func plainInode(i impl.Inode) []byte {
	b := make([]byte, 128)
	b[0] = byte(i.Kind)
	put16(b, 2, i.Links)
	put16(b, 4, i.Mode)
	put16(b, 6, i.Uid)
	put16(b, 8, i.Gid)
	put32(b, 12, i.Parent)
	put64(b, 16, i.Gen)
	put64(b, 24, i.Mtime)
	put64(b, 32, i.Ctime)
	putRoot(b, 40, i.Root)
	return b
}

func plainFsinfo(f impl.Fsinfo) []byte {
	b := make([]byte, 512)
	copy(b, "rootrec1")
	put64(b, 8, f.Gen)
	put32(b, 16, f.Blocks)
	put32(b, 20, f.Cursor)
	put64(b, 24, f.Clock)
	put64(b, 32, f.Ops)
	put32(b, 40, f.Every)
	put32(b, 44, f.Log)
	putRoot(b, 48, f.Ino)
	putRoot(b, 112, f.Map)
	for i, p := range f.Snaps {
		put32(b, 176+4*i, p)
	}
	return seal(b)
}

func plainSnap(s impl.Snap) []byte {
	b := make([]byte, 512)
	copy(b, "snapshot")
	b[8] = byte(s.Plane)
	b[9] = byte(len(s.Name))
	copy(b[10:36], s.Name)
	put64(b, 40, s.Gen)
	put64(b, 48, s.Clock)
	putRoot(b, 56, s.Root)
	return seal(b)
}

// form is one encoder with its decoder, over the subject's part.
type form struct {
	name   string
	encode func(*subject) ([]byte, int)
	plain  func(*subject) []byte
	// decode tells whether the bytes were read as the subject's part, and the code;
	// zero says whether the answer is all zero.
	decode func(s *subject, b []byte) (same, zero bool, code int)
	// again decodes and lays down again what was read.
	again func(b []byte) ([]byte, int)
}

func forms() []form {
	return []form{
		{"root", func(s *subject) ([]byte, int) { return impl.EncodeRoot(s.root) },
			func(s *subject) []byte { return plainRoot(s.root) },
			func(s *subject, b []byte) (bool, bool, int) {
				r, code := impl.DecodeRoot(b)
				return r == s.root, r == impl.Root{}, code
			},
			func(b []byte) ([]byte, int) {
				r, code := impl.DecodeRoot(b)
				if code != 0 {
					return nil, code
				}
				return impl.EncodeRoot(r)
			}},
		{"inode", func(s *subject) ([]byte, int) { return impl.EncodeInode(s.inode) },
			func(s *subject) []byte { return plainInode(s.inode) },
			func(s *subject, b []byte) (bool, bool, int) {
				i, code := impl.DecodeInode(b)
				return i == s.inode, i == impl.Inode{}, code
			},
			func(b []byte) ([]byte, int) {
				i, code := impl.DecodeInode(b)
				if code != 0 {
					return nil, code
				}
				return impl.EncodeInode(i)
			}},
		{"root record", func(s *subject) ([]byte, int) { return impl.EncodeFsinfo(s.info) },
			func(s *subject) []byte { return plainFsinfo(s.info) },
			func(s *subject, b []byte) (bool, bool, int) {
				f, code := impl.DecodeFsinfo(b)
				return f == s.info, f == impl.Fsinfo{}, code
			},
			func(b []byte) ([]byte, int) {
				f, code := impl.DecodeFsinfo(b)
				if code != 0 {
					return nil, code
				}
				return impl.EncodeFsinfo(f)
			}},
		{"snapshot", func(s *subject) ([]byte, int) { return impl.EncodeSnap(s.snap) },
			func(s *subject) []byte { return plainSnap(s.snap) },
			func(s *subject, b []byte) (bool, bool, int) {
				n, code := impl.DecodeSnap(b)
				return n == s.snap, n == impl.Snap{}, code
			},
			func(b []byte) ([]byte, int) {
				n, code := impl.DecodeSnap(b)
				if code != 0 {
					return nil, code
				}
				return impl.EncodeSnap(n)
			}},
	}
}

// accepted asks that the subject's part is laid down as the plain form says
// and read back.
func accepted(t *testing.T, f form, s *subject, what string) {
	t.Helper()
	b, code := f.encode(s)
	if code != impl.OK || !bytes.Equal(b, f.plain(s)) {
		t.Errorf("%s: %s: code %d, or other bytes", f.name, what, code)
		return
	}
	kept := bytes.Clone(b)
	if same, _, code := f.decode(s, b); !same || code != impl.OK {
		t.Errorf("%s: %s: not read back, code %d", f.name, what, code)
	}
	if !bytes.Equal(b, kept) {
		t.Errorf("%s: %s: the decoder has changed its argument", f.name, what)
	}
}

// unwritten asks that the bytes are refused.
func unwritten(t *testing.T, f form, b []byte, what string) {
	t.Helper()
	if _, zero, code := f.decode(newSubject(), b); !zero || code != impl.ErrCorrupt {
		t.Errorf("%s: %s: code %d, zero %v", f.name, what, code, zero)
	}
}

// wrong asks that the subject's part is not laid down, and that its bytes,
// where the plain form can write them, are not read.
func wrong(t *testing.T, f form, s *subject, what string, fits bool) {
	t.Helper()
	if b, code := f.encode(s); code != impl.ErrInval || len(b) != 0 {
		t.Errorf("%s: %s: code %d, %d bytes", f.name, what, code, len(b))
	}
	if fits {
		unwritten(t, f, f.plain(s), what)
	}
}

func TestCrc32(t *testing.T) {
	for text, want := range map[string]uint32{"": 0, "a": 0xE8B7BE43, "123456789": 0xCBF43926, "\x00\x00\x00\x00": 0x2144DF1C, "\xff\xff\xff\xff": 0xFFFFFFFF} {
		if got := impl.Crc32([]byte(text)); got != want {
			t.Errorf("%q: %X, want %X", text, got, want)
		}
	}
	if impl.Crc32(nil) != 0 {
		t.Errorf("no bytes")
	}
	r := rand.New(rand.NewSource(1))
	for n := 0; n < 700; n += 7 {
		b := make([]byte, n)
		r.Read(b)
		if got, want := impl.Crc32(b), crc32.ChecksumIEEE(b); got != want {
			t.Errorf("%d bytes: %X, want %X", n, got, want)
		}
	}
}

func TestFormsOrdinary(t *testing.T) {
	for _, f := range forms() {
		accepted(t, f, newSubject(), "ordinary")
	}
}

// Field by field: right at the edges, wrong by one and far beyond.
func TestFormsBounds(t *testing.T) {
	far := []int{math.MinInt, math.MaxInt, -1, -2, 1 << 32, 1 << 40 << 3, 1<<32 + 2, 1<<16 + 2}
	clock := bounds{bits: 64, right: []int{1, 2, impl.MaxClock}, bad: []int{0, impl.MaxClock + 1, -1, math.MinInt, math.MaxInt}}
	id := bounds{bits: 16, right: []int{0, impl.MaxId}, bad: []int{-1, impl.MaxId + 1, math.MinInt, math.MaxInt}}
	pointer := bounds{bits: 32, right: []int{0, 2, impl.MaxBlocks - 1}, bad: append([]int{1, impl.MaxBlocks}, far...)}
	inPointer := bounds{bits: 32, right: []int{0, 2, 0x677}, bad: append([]int{1, 0x678, 0x679, impl.MaxBlocks - 1, impl.MaxBlocks}, far...)}
	plane := bounds{bits: 8, right: []int{1, 31}, bad: append([]int{0, 32, 255, 256 + 2}, far...)}
	all := forms()
	rootForm, inodeForm, infoForm, snapForm := all[0], all[1], all[2], all[3]
	for _, c := range []struct {
		form
		field string
		bounds
		at func(*subject) *int
	}{
		{rootForm, "Size", bounds{bits: 64, right: []int{impl.MaxFile, 140*512 + 1}, bad: append([]int{impl.MaxFile + 1, 140 * 512}, far...)}, func(s *subject) *int { return &s.root.Size }},
		{rootForm, "Direct 0", pointer, func(s *subject) *int { return &s.root.Direct[0] }},
		{rootForm, "Direct 11", pointer, func(s *subject) *int { return &s.root.Direct[11] }},
		{rootForm, "Single", pointer, func(s *subject) *int { return &s.root.Single }},
		{rootForm, "Double", pointer, func(s *subject) *int { return &s.root.Double }},
		{inodeForm, "Kind", bounds{bits: 8, right: []int{2}, bad: append([]int{0, 1, 3, 4, 255, 256 + 2}, far...)}, func(s *subject) *int { return &s.inode.Kind }},
		{inodeForm, "Links", bounds{bits: 16, right: []int{1, 2, impl.MaxLinks}, bad: append([]int{0, impl.MaxLinks + 1}, far...)}, func(s *subject) *int { return &s.inode.Links }},
		{inodeForm, "Mode", bounds{bits: 16, right: []int{0, impl.MaxMode}, bad: []int{-1, impl.MaxMode + 1, math.MinInt, math.MaxInt, 1<<16 + 2}}, func(s *subject) *int { return &s.inode.Mode }},
		{inodeForm, "Uid", id, func(s *subject) *int { return &s.inode.Uid }},
		{inodeForm, "Gid", id, func(s *subject) *int { return &s.inode.Gid }},
		{inodeForm, "Parent", bounds{bits: 32, right: []int{1, impl.MaxInodes}, bad: append([]int{0, impl.MaxInodes + 1}, far...)}, func(s *subject) *int { return &s.inode.Parent }},
		{inodeForm, "Gen", clock, func(s *subject) *int { return &s.inode.Gen }},
		{inodeForm, "Mtime", clock, func(s *subject) *int { return &s.inode.Mtime }},
		{inodeForm, "Ctime", clock, func(s *subject) *int { return &s.inode.Ctime }},
		{inodeForm, "Root", pointer, func(s *subject) *int { return &s.inode.Root.Double }},
		{infoForm, "Gen", clock, func(s *subject) *int { return &s.info.Gen }},
		{infoForm, "Clock", clock, func(s *subject) *int { return &s.info.Clock }},
		{infoForm, "Ops", bounds{bits: 64, right: []int{0, 1, impl.MaxClock}, bad: []int{-1, impl.MaxClock + 1, math.MinInt, math.MaxInt}}, func(s *subject) *int { return &s.info.Ops }},
		{infoForm, "Blocks", bounds{bits: 32, right: []int{0x678}, bad: append([]int{0x677, 0x679, 0, 2}, far...)}, func(s *subject) *int { return &s.info.Blocks }},
		{infoForm, "Cursor", bounds{bits: 32, right: []int{2, 0x677}, bad: append([]int{0, 1, 0x678}, far...)}, func(s *subject) *int { return &s.info.Cursor }},
		{infoForm, "Every", bounds{bits: 32, right: []int{0, 1, impl.MaxEvery}, bad: []int{-1, impl.MaxEvery + 1, math.MinInt, math.MaxInt, 1<<32 + 2}}, func(s *subject) *int { return &s.info.Every }},
		{infoForm, "Log", bounds{bits: 32, right: []int{0, impl.MinLog, impl.MaxLog}, bad: append([]int{1, impl.MinLog - 1, impl.MaxLog + 1}, far...)}, func(s *subject) *int { return &s.info.Log }},
		{infoForm, "Ino.Size", bounds{bits: 64, right: []int{128 * 561, 128 * 1001}, bad: append([]int{128*1001 + 1, 128*1001 - 1, 128 * 1002, 128 * 560, impl.MaxFile}, far...)}, func(s *subject) *int { return &s.info.Ino.Size }},
		{infoForm, "Ino.Direct", inPointer, func(s *subject) *int { return &s.info.Ino.Direct[5] }},
		{infoForm, "Ino.Single", inPointer, func(s *subject) *int { return &s.info.Ino.Single }},
		{infoForm, "Ino.Double", inPointer, func(s *subject) *int { return &s.info.Ino.Double }},
		{infoForm, "Map.Size", bounds{bits: 64, right: []int{4 * 0x678}, bad: append([]int{4*0x678 - 1, 4*0x678 + 1, 4*0x678 + 4, 4*0x678 - 4, 0x678}, far...)}, func(s *subject) *int { return &s.info.Map.Size }},
		{infoForm, "Map.Direct", inPointer, func(s *subject) *int { return &s.info.Map.Direct[11] }},
		{infoForm, "Map.Single", inPointer, func(s *subject) *int { return &s.info.Map.Single }},
		{infoForm, "Map.Double", bounds{bits: 32, right: []int{0}, bad: []int{1, 2, 5, -1}}, func(s *subject) *int { return &s.info.Map.Double }},
		{infoForm, "Snaps 0", inPointer, func(s *subject) *int { return &s.info.Snaps[0] }},
		{infoForm, "Snaps 30", inPointer, func(s *subject) *int { return &s.info.Snaps[30] }},
		{snapForm, "Plane", plane, func(s *subject) *int { return &s.snap.Plane }},
		{snapForm, "Gen", clock, func(s *subject) *int { return &s.snap.Gen }},
		{snapForm, "Clock", clock, func(s *subject) *int { return &s.snap.Clock }},
		{snapForm, "Root.Size", bounds{bits: 64, right: []int{128 * 561, 128 * 1001}, bad: append([]int{128*1001 + 1, 128 * 1002, 128*1000 + 64, 128 * 560, impl.MaxFile}, far...)}, func(s *subject) *int { return &s.snap.Root.Size }},
		{snapForm, "Root.Direct", pointer, func(s *subject) *int { return &s.snap.Root.Direct[3] }},
	} {
		for _, n := range c.right {
			s := newSubject()
			*c.at(s) = n
			accepted(t, c.form, s, c.field)
		}
		for _, n := range c.bad {
			s := newSubject()
			*c.at(s) = n
			wrong(t, c.form, s, c.field, c.holds(n))
		}
	}
}

// The pointers that a root of so many bytes may have.
func TestRootPointersBySize(t *testing.T) {
	f := forms()[0]
	for _, size := range []int{0, 1, 511, 512, 513, 1024, 11 * 512, 11*512 + 1, 12 * 512, 12*512 + 1, 139 * 512, 140 * 512, 140*512 + 1, impl.MaxFile} {
		count := (size + 511) / 512
		for i := 0; i < 14; i++ {
			s := newSubject()
			s.root = impl.Root{Size: size}
			allowed := i < count
			switch {
			case i < 12:
				s.root.Direct[i] = 2
			case i == 12:
				s.root.Single = 2
				allowed = count > 12
			default:
				s.root.Double = 2
				allowed = count > 140
			}
			if allowed {
				accepted(t, f, s, "a pointer")
			} else {
				wrong(t, f, s, "a pointer behind the end", true)
			}
		}
		s := newSubject()
		s.root = impl.Root{Size: size}
		accepted(t, f, s, "only holes")
	}
}

func TestInodeKinds(t *testing.T) {
	f := forms()[1]
	s := newSubject()
	s.inode = impl.Inode{}
	accepted(t, f, s, "free")
	for _, kind := range []int{impl.KindFile, impl.KindLink} {
		s.inode = impl.Inode{Kind: kind, Links: 1, Gen: 1, Mtime: 1, Ctime: 1}
		accepted(t, f, s, "without a parent")
		s.inode.Parent = 1
		wrong(t, f, s, "with a parent", true)
	}
	for _, kind := range []int{impl.KindFree, impl.KindLink + 1, 255, 256 + impl.KindFile, -1, math.MinInt, math.MaxInt} {
		s.inode = impl.Inode{Kind: kind, Links: 1, Gen: 1, Mtime: 1, Ctime: 1}
		wrong(t, f, s, "no such kind", kind >= 0 && kind < 256)
	}
	for i, one := range []impl.Inode{{Links: 1}, {Mode: 1}, {Uid: 1}, {Gid: 1}, {Parent: 1}, {Gen: 1}, {Mtime: 1}, {Ctime: 1}, {Root: impl.Root{Size: 1}}, {Kind: 1}} {
		s.inode = one
		wrong(t, f, s, "nearly free "+string(rune('0'+i)), true)
	}
}

// A record of every size, with the pointers of its size.
func TestFsinfoSizes(t *testing.T) {
	f := forms()[2]
	small := impl.Fsinfo{Gen: 1, Clock: 1, Cursor: 2, Ino: impl.Root{Size: 256}}
	for n := impl.MinBlocks; n <= impl.MaxBlocks; n++ {
		s := newSubject()
		s.info = small
		s.info.Blocks, s.info.Map.Size = n, 4*n
		s.info.Snaps[n%31] = n - 1
		accepted(t, f, s, "small")
	}
	for _, n := range []int{0, 1, 2, impl.MinBlocks - 1, impl.MaxBlocks + 1, 1 << 15} {
		s := newSubject()
		s.info = small
		s.info.Blocks, s.info.Map.Size = n, 4*n
		wrong(t, f, s, "Blocks", true)
	}
	for _, size := range []int{0, 128, 255, 257, 256 + 64} {
		s := newSubject()
		s.info = small
		s.info.Blocks, s.info.Map.Size, s.info.Ino.Size = 64, 256, size
		wrong(t, f, s, "Ino.Size", true)
		s.snap.Root = impl.Root{Size: size}
		wrong(t, forms()[3], s, "Root.Size", true)
	}
	s := newSubject()
	s.info = small
	s.info.Blocks, s.info.Map.Size = math.MaxInt/4+1+64, 256
	wrong(t, f, s, "Blocks that wrap round", false)
}

func TestSnapNames(t *testing.T) {
	f := forms()[3]
	for _, name := range []string{"a", "...", ".a", "..a", "-", "a b", "\xff\xfe", "\xc3", "ä", "\x01", strings.Repeat("n", 25), strings.Repeat("n", 26), strings.Repeat("\xf0", 26)} {
		s := newSubject()
		s.snap.Name = name
		accepted(t, f, s, "name "+name)
		s.snap.Root = impl.Root{Size: 256}
		s.snap.Plane = 1
		accepted(t, f, s, "name "+name)
	}
	for _, name := range []string{"", ".", "..", "/", "a/b", "\x00", "a\x00", "\x00a", "\xc3/", strings.Repeat("n", 27), strings.Repeat("n", 255), strings.Repeat("n", 256), strings.Repeat("n", 100000)} {
		s := newSubject()
		s.snap.Name = name
		wrong(t, f, s, "bad name", len(name) <= 26)
	}
	// The length of the name and what stands there must agree.
	for _, length := range []byte{0, 5, 7, 26, 27, 30, 31, 255} {
		b := plainSnap(newSubject().snap)
		b[9] = length
		unwritten(t, f, seal(b), "length of the name")
	}
	b := plainSnap(newSubject().snap)
	for at := 10; at < 40; at++ {
		b[at] = 'n'
	}
	b[9] = 27
	unwritten(t, f, seal(b), "27 letters")
}

// Bytes of another length are refused.
func TestFormsLengths(t *testing.T) {
	for _, f := range forms() {
		b := f.plain(newSubject())
		for _, n := range []int{0, 1, 7, 8, 63, 104, len(b) - 4, len(b) - 1} {
			if n < len(b) {
				unwritten(t, f, b[:n], "cut")
			}
		}
		unwritten(t, f, nil, "nothing")
		unwritten(t, f, append(bytes.Clone(b), 0), "one more")
		unwritten(t, f, append(bytes.Clone(b), b...), "twice")
	}
}

func TestOneChangedBitIsRefused(t *testing.T) {
	for _, f := range forms()[2:] {
		b := f.plain(newSubject())
		for bit := 0; bit < 8*len(b); bit++ {
			b[bit/8] ^= 1 << (bit % 8)
			unwritten(t, f, b, "one changed bit")
			b[bit/8] ^= 1 << (bit % 8)
		}
	}
}

// Whatever a decoder accepts is just what its encoder lays down. Each byte
// takes every value; where there is a sum it is made right again.
func TestDecodersAcceptOnlyWhatEncodersWrite(t *testing.T) {
	t.Parallel()
	for k, f := range forms() {
		for _, b := range nearlyRight(f) {
			bytesOfSum := 0
			if k >= 2 {
				bytesOfSum = 4
			}
			for at := 0; at < len(b)-bytesOfSum; at++ {
				for v := 0; v < 256; v++ {
					c := bytes.Clone(b)
					c[at] = byte(v)
					if bytesOfSum > 0 {
						seal(c)
					}
					if got, code := f.again(c); code == impl.OK && !bytes.Equal(got, c) || code != impl.OK && code != impl.ErrCorrupt {
						t.Fatalf("%s: byte %d as %d: code %d, or other bytes", f.name, at, v, code)
					}
				}
			}
		}
	}
}

// nearlyRight are the bytes from which the changes begin: full and small things.
func nearlyRight(f form) [][]byte {
	small := &subject{inode: impl.Inode{}, root: impl.Root{Size: 600, Direct: [12]int{2, 3}}}
	small.info = impl.Fsinfo{Gen: 1, Blocks: 64, Clock: 1, Cursor: 2, Ino: impl.Root{Size: 256}, Map: impl.Root{Size: 256}}
	small.snap = impl.Snap{Plane: 1, Name: "a", Gen: 1, Clock: 1, Root: impl.Root{Size: 256}}
	return [][]byte{f.plain(newSubject()), f.plain(small)}
}

// The bytes that a form leaves zero.
func TestFormsFilling(t *testing.T) {
	for k, gaps := range [][]int{nil, {1, 10, 11, 104, 105, 120, 127}, {300, 301, 400, 507}, {16, 35, 36, 37, 38, 39, 120, 121, 300, 507}} {
		f := forms()[k]
		for _, at := range gaps {
			b := f.plain(newSubject())
			if b[at] != 0 {
				t.Fatalf("%s: byte %d is no filling", f.name, at)
			}
			b[at] = 1
			if len(b) == impl.BlockSize {
				seal(b)
			}
			unwritten(t, f, b, "filling")
		}
	}
}

// Letters and sums: each a reason of its own to refuse a block.
func TestBlockLettersAndSums(t *testing.T) {
	info, snap := plainFsinfo(newSubject().info), plainSnap(newSubject().snap)
	unwritten(t, forms()[2], snap, "a snapshot as a record")
	unwritten(t, forms()[3], info, "a record as a snapshot")
	for at := 0; at < 8; at++ {
		b, c := bytes.Clone(info), bytes.Clone(snap)
		b[at], c[at] = 'X', 'X'
		unwritten(t, forms()[2], seal(b), "letters")
		unwritten(t, forms()[3], seal(c), "letters")
	}
	for at := 508; at < 512; at++ {
		b, c := bytes.Clone(info), bytes.Clone(snap)
		b[at]++
		c[at]++
		unwritten(t, forms()[2], b, "sum")
		unwritten(t, forms()[3], c, "sum")
	}
	unwritten(t, forms()[2], blank(1), "zeros")
	unwritten(t, forms()[2], seal(blank(1)), "zeros with a sum")
	unwritten(t, forms()[3], seal(blank(1)), "zeros with a sum")
}

// Numbers of 64 bits that no int holds, or that only their low half makes right.
func TestFormsGreatNumbers(t *testing.T) {
	all := forms()
	for k, places := range [][]int{{0}, {16, 24, 32, 40}, {8, 24, 32, 48, 112}, {40, 48, 56}} {
		for _, at := range places {
			for _, top := range []byte{0x01, 0x7f, 0x80, 0xff} {
				b := all[k].plain(newSubject())
				b[at+7] = top
				if len(b) == impl.BlockSize {
					seal(b)
				}
				unwritten(t, all[k], b, "a great number")
			}
		}
	}
}

func TestWords(t *testing.T) {
	r := rand.New(rand.NewSource(2))
	for round := 0; round < 20; round++ {
		w := make([]int, impl.Fanout)
		want := make([]byte, impl.BlockSize)
		for i := range w {
			w[i] = int(r.Uint32())
			if round < 2 {
				w[i] = round * math.MaxUint32
			}
			put32(want, 4*i, w[i])
		}
		kept := append([]int{}, w...)
		b, code := impl.EncodeWords(w)
		if code != impl.OK || !bytes.Equal(b, want) {
			t.Fatalf("laid down: %d", code)
		}
		got, code := impl.DecodeWords(b)
		if code != impl.OK || len(got) != impl.Fanout || !bytes.Equal(b, want) {
			t.Fatalf("read: %d", code)
		}
		for i := range w {
			if got[i] != w[i] || w[i] != kept[i] {
				t.Fatalf("word %d: %d, want %d", i, got[i], w[i])
			}
		}
	}
	for _, n := range []int{0, 1, 127, 129, 256} {
		if b, code := impl.EncodeWords(make([]int, n)); code != impl.ErrInval || len(b) != 0 {
			t.Errorf("%d words: %d", n, code)
		}
	}
	for _, n := range []int{-1, 1 << 32, math.MinInt, math.MaxInt, 1<<32 + 5} {
		for _, at := range []int{0, 64, 127} {
			w := make([]int, impl.Fanout)
			w[at] = n
			if b, code := impl.EncodeWords(w); code != impl.ErrInval || len(b) != 0 {
				t.Errorf("word %d: %d", n, code)
			}
		}
	}
	for _, n := range []int{0, 1, 4, 511, 513, 516, 1024} {
		if w, code := impl.DecodeWords(make([]byte, n)); code != impl.ErrCorrupt || len(w) != 0 {
			t.Errorf("%d bytes: %d", n, code)
		}
	}
}

func TestCheckName(t *testing.T) {
	for name, want := range map[string]int{
		"": impl.ErrInval, ".": impl.ErrInval, "..": impl.ErrInval, "...": impl.OK, "a": impl.OK, ".snapshot": impl.OK,
		"a/b": impl.ErrInval, "/": impl.ErrInval, "a\x00": impl.ErrInval, "\xe2\x82/": impl.ErrInval, "\xff": impl.OK,
		strings.Repeat("a", 26): impl.OK, strings.Repeat("a", 27): impl.ErrNameLong, strings.Repeat("/", 27): impl.ErrNameLong,
		strings.Repeat("a", 25) + "/": impl.ErrInval, strings.Repeat("ä", 13): impl.OK, strings.Repeat("ä", 14): impl.ErrNameLong,
	} {
		if got := impl.CheckName(name); got != want {
			t.Errorf("%q: %d, want %d", name, got, want)
		}
	}
}
