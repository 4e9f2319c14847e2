package impl

import (
	"errors"
	"math/bits"
	"strconv"
)

// Limits of forms, see chapter 1.
const (
	Fanout    = 128
	Directs   = 12
	MaxFile   = 262144
	MaxInodes = 1000
	MaxLinks  = 1000
	MaxMode   = 4095
	MaxId     = 65535
	MaxClock  = 1099511627776
	Planes    = 31
	MinLog    = 8192
	MaxLog    = 65536
	MaxEvery  = 1000
)

// Kinds of inodes, see chapter 3.
const (
	KindFree = 0
	KindFile = 1
	KindDir  = 2
	KindLink = 3
)

// Root is where the bytes of a file lie.
type Root struct {
	Size           int
	Direct         [12]int
	Single, Double int
}

// Inode is what a volume keeps of a file beside its bytes.
type Inode struct {
	Kind, Links, Mode, Uid, Gid, Parent, Gen, Mtime, Ctime int
	Root                                                   Root
}

// Fsinfo is the root record.
type Fsinfo struct {
	Gen, Blocks, Cursor, Clock, Ops, Every, Log int
	Ino, Map                                    Root
	Snaps                                       [31]int
}

// Snap is what is kept of a snapshot.
type Snap struct {
	Plane      int
	Name       string
	Gen, Clock int
	Root       Root
}

// Bytes that the forms take which aren't a block each.
const (
	rootBytes  = 64
	inodeBytes = 128
	wordBytes  = BlockSize / Fanout
	sumBytes   = 4
	sumAt      = BlockSize - sumBytes
)

// maxWord is the greatest word of a block of pointers or of the map.
const maxWord = 1<<32 - 1

// letters are what the block of a form, or a stream, begins with.
type letters [8]byte

var (
	fsinfoLetters = letters{'r', 'o', 'o', 't', 'r', 'e', 'c', '1'}
	snapLetters   = letters{'s', 'n', 'a', 'p', 's', 'h', 'o', 't'}
)

// formFault is what is wrong with bytes that are read, or with what is to be
// laid down or written: the code tells which of these.
type formFault struct {
	code int
}

func (f *formFault) Error() string { return "not right, code " + strconv.Itoa(f.code) }

// placedFault says where a fault was found.
type placedFault struct {
	place string
	inner error
}

func (p *placedFault) Error() string { return p.place + ": " + p.inner.Error() }

func (p *placedFault) Unwrap() error { return p.inner }

// codeOf takes an error apart for the face of the package.
func codeOf(err error) int {
	if err == nil {
		return OK
	}
	var fault *formFault
	if errors.As(err, &fault) {
		return fault.code
	}
	return ErrCorrupt
}

// check keeps the first fault: what is asked behind it may lean on what was
// asked ahead of it.
type check struct {
	code int
	err  error
}

func (c *check) inside(place string, err error) {
	if c.err == nil && err != nil {
		c.err = &placedFault{place: place, inner: err}
	}
}

func (c *check) need(place string, holds bool) {
	if !holds {
		c.inside(place, &formFault{code: c.code})
	}
}

func (c *check) within(place string, n, least, most int) {
	c.need(place, n >= least && n <= most)
}

// unsigned are the numbers that stand inside of bytes.
type unsigned interface {
	uint8 | uint16 | uint32 | uint64
}

func widthOf[T unsigned]() int { return bits.Len64(uint64(^T(0))) / 8 }

// lay puts a number at the end of out, in as many bytes as its type has.
func lay[T unsigned](out []byte, n T) []byte {
	rest := uint64(n)
	for range widthOf[T]() {
		out = append(out, byte(rest))
		rest >>= 8
	}
	return out
}

// layZeros fills out up with zeros to the offset at.
func layZeros(out []byte, at int) []byte {
	for len(out) < at {
		out = append(out, 0)
	}
	return out
}

func layLetters(l letters) []byte {
	return append(make([]byte, 0, BlockSize), l[:]...)
}

// laySum ends a block: zeros, and the sum of all that is ahead of it.
func laySum(out []byte) []byte {
	out = layZeros(out, sumAt)
	return lay(out, Crc32(out))
}

// reader is a cursor over bytes. Behind a fault it tells zeros.
type reader struct {
	check
	data []byte
	at   int
}

func newReader(data []byte) *reader {
	return &reader{check: check{code: ErrCorrupt}, data: data}
}

// newBlockReader is newSealedReader of a block.
func newBlockReader(data []byte, want letters) *reader {
	if len(data) != BlockSize {
		r := newReader(nil)
		r.need("length", false)
		return r
	}
	return newSealedReader(data, want)
}

// newSealedReader stands behind the letters of bytes that end with their sum, which is
// right, and ends ahead of that sum.
func newSealedReader(data []byte, want letters) *reader {
	r := newReader(data)
	r.need("length", len(data) >= sumBytes)
	if r.err != nil {
		return r
	}
	end := len(data) - sumBytes
	sum := number[uint32](newReader(data[end:]))
	r.data = data[:end]
	r.need("sum", uint32(sum) == Crc32(r.data))
	var found letters
	copy(found[:], r.take(len(found)))
	r.need("letters", found == want)
	return r
}

func (r *reader) take(n int) []byte {
	r.need("end", n >= 0 && n <= len(r.data)-r.at)
	if r.err != nil {
		return nil
	}
	r.at += n
	return r.data[r.at-n : r.at]
}

// zeros reads up to the offset at.
func (r *reader) zeros(at int) {
	for _, b := range r.take(at - r.at) {
		r.need("filling", b == 0)
	}
}

// end wants nothing but zeros up to the offset at, and nothing behind it.
func (r *reader) end(at int) {
	r.zeros(at)
	r.need("end", r.at == len(r.data))
}

// number reads a number of T's width. One of 64 bits that no int holds comes
// out negative, which no form allows.
func number[T unsigned](r *reader) int {
	var n uint64
	for i, b := range r.take(widthOf[T]()) {
		n |= uint64(b) << (8 * i)
	}
	return int(n)
}

// told is what a decoder answers: what it has read, or zero and the code.
func told[T any](value T, err error) (T, int) {
	if err != nil {
		var none T
		return none, codeOf(err)
	}
	return value, OK
}

// Crc32 is the usual sum, see chapter 3.
func Crc32(data []byte) uint32 {
	sum := ^uint32(0)
	for _, b := range data {
		sum ^= uint32(b)
		for range 8 {
			out := sum & 1
			sum >>= 1
			if out == 1 {
				sum ^= 0xEDB88320
			}
		}
	}
	return ^sum
}

// firstBlock is the least block behind the two copies of the root record.
const firstBlock = 2

// isBlock says whether b is a block of a device of so many that may be in use
// for something other than the root record.
func isBlock(b, blocks int) bool {
	return b >= firstBlock && b < blocks
}

// isPointer says whether p is a hole or a block that may hang in a tree of a
// device of so many blocks.
func isPointer(p, blocks int) bool {
	return p == 0 || isBlock(p, blocks)
}

// blocksOf is how many data blocks so many bytes take. (Size is not negative.)
func blocksOf(size int) int {
	blocks := size / BlockSize
	if size%BlockSize != 0 {
		blocks++
	}
	return blocks
}

func rootFault(r Root, code int) error {
	c := check{code: code}
	c.within("Size", r.Size, 0, MaxFile)
	c.inside("pointers", pointersFault(r, MaxBlocks, code))
	blocks := blocksOf(r.Size)
	for i, p := range r.Direct {
		c.need("Direct", p == 0 || i < blocks)
	}
	c.need("Single", r.Single == 0 || blocks > Directs)
	c.need("Double", r.Double == 0 || blocks > Directs+Fanout)
	return c.err
}

func pointersFault(r Root, blocks, code int) error {
	c := check{code: code}
	for _, p := range r.Direct {
		c.need("Direct", isPointer(p, blocks))
	}
	c.need("Single", isPointer(r.Single, blocks))
	c.need("Double", isPointer(r.Double, blocks))
	return c.err
}

// tableRootFault is rootFault of the root of an inode table, which has inodes
// 0 and 1 at least.
func tableRootFault(r Root, code int) error {
	c := check{code: code}
	c.inside("root", rootFault(r, code))
	c.within("Size", r.Size, 2*inodeBytes, (MaxInodes+1)*inodeBytes)
	c.need("Size", r.Size%inodeBytes == 0)
	return c.err
}

func layRoot(out []byte, r Root) []byte {
	out = lay(out, uint64(r.Size))
	for _, p := range r.Direct {
		out = lay(out, uint32(p))
	}
	out = lay(out, uint32(r.Single))
	return lay(out, uint32(r.Double))
}

func readRoot(r *reader) Root {
	root := Root{Size: number[uint64](r)}
	for i := range root.Direct {
		root.Direct[i] = number[uint32](r)
	}
	root.Single = number[uint32](r)
	root.Double = number[uint32](r)
	return root
}

// EncodeRoot lays a root down, see chapter 3.
func EncodeRoot(r Root) ([]byte, int) {
	if err := rootFault(r, ErrInval); err != nil {
		return nil, codeOf(err)
	}
	return layRoot(make([]byte, 0, rootBytes), r), OK
}

// DecodeRoot reads a root, see chapter 3.
func DecodeRoot(b []byte) (Root, int) {
	r := newReader(b)
	root := readRoot(r)
	r.end(rootBytes)
	r.inside("root", rootFault(root, r.code))
	return told(root, r.err)
}

func inodeFault(i Inode, code int) error {
	if i == (Inode{}) {
		return nil
	}
	c := check{code: code}
	c.within("Kind", i.Kind, KindFile, KindLink)
	c.within("Links", i.Links, 1, MaxLinks)
	c.within("Mode", i.Mode, 0, MaxMode)
	c.within("Uid", i.Uid, 0, MaxId)
	c.within("Gid", i.Gid, 0, MaxId)
	if i.Kind == KindDir {
		c.within("Parent", i.Parent, 1, MaxInodes)
	} else {
		c.need("Parent", i.Parent == 0)
	}
	c.within("Gen", i.Gen, 1, MaxClock)
	c.within("Mtime", i.Mtime, 1, MaxClock)
	c.within("Ctime", i.Ctime, 1, MaxClock)
	c.inside("Root", rootFault(i.Root, code))
	return c.err
}

func layInode(i Inode) []byte {
	out := lay(make([]byte, 0, inodeBytes), uint8(i.Kind))
	out = layZeros(out, 2)
	out = lay(out, uint16(i.Links))
	out = lay(out, uint16(i.Mode))
	out = lay(out, uint16(i.Uid))
	out = lay(out, uint16(i.Gid))
	out = layZeros(out, 12)
	out = lay(out, uint32(i.Parent))
	out = lay(out, uint64(i.Gen))
	out = lay(out, uint64(i.Mtime))
	out = lay(out, uint64(i.Ctime))
	out = layRoot(out, i.Root)
	return layZeros(out, inodeBytes)
}

func readInode(r *reader) Inode {
	var i Inode
	i.Kind = number[uint8](r)
	r.zeros(2)
	i.Links = number[uint16](r)
	i.Mode = number[uint16](r)
	i.Uid = number[uint16](r)
	i.Gid = number[uint16](r)
	r.zeros(12)
	i.Parent = number[uint32](r)
	i.Gen = number[uint64](r)
	i.Mtime = number[uint64](r)
	i.Ctime = number[uint64](r)
	i.Root = readRoot(r)
	return i
}

// EncodeInode lays an inode down, see chapter 3.
func EncodeInode(i Inode) ([]byte, int) {
	if err := inodeFault(i, ErrInval); err != nil {
		return nil, codeOf(err)
	}
	return layInode(i), OK
}

// DecodeInode reads an inode, see chapter 3.
func DecodeInode(b []byte) (Inode, int) {
	r := newReader(b)
	i := readInode(r)
	r.end(inodeBytes)
	r.inside("inode", inodeFault(i, r.code))
	return told(i, r.err)
}

// isLog says whether a log may have so many bytes; 0 is none.
func isLog(size int) bool {
	return size == 0 || size >= MinLog && size <= MaxLog
}

func fsinfoFault(f Fsinfo, code int) error {
	c := check{code: code}
	c.within("Gen", f.Gen, 1, MaxClock)
	c.within("Clock", f.Clock, 1, MaxClock)
	c.within("Ops", f.Ops, 0, MaxClock)
	c.within("Blocks", f.Blocks, MinBlocks, MaxBlocks)
	c.need("Cursor", isBlock(f.Cursor, f.Blocks))
	c.within("Every", f.Every, 0, MaxEvery)
	c.need("Log", isLog(f.Log))
	c.inside("Ino", tableRootFault(f.Ino, code))
	c.inside("Ino", pointersFault(f.Ino, f.Blocks, code))
	c.inside("Map", rootFault(f.Map, code))
	c.inside("Map", pointersFault(f.Map, f.Blocks, code))
	c.need("Map", f.Map.Size%wordBytes == 0 && f.Map.Size/wordBytes == f.Blocks)
	for _, p := range f.Snaps {
		c.need("Snaps", isPointer(p, f.Blocks))
	}
	return c.err
}

func layFsinfo(f Fsinfo) []byte {
	out := layLetters(fsinfoLetters)
	out = lay(out, uint64(f.Gen))
	out = lay(out, uint32(f.Blocks))
	out = lay(out, uint32(f.Cursor))
	out = lay(out, uint64(f.Clock))
	out = lay(out, uint64(f.Ops))
	out = lay(out, uint32(f.Every))
	out = lay(out, uint32(f.Log))
	out = layRoot(out, f.Ino)
	out = layRoot(out, f.Map)
	for _, p := range f.Snaps {
		out = lay(out, uint32(p))
	}
	return laySum(out)
}

func readFsinfo(r *reader) Fsinfo {
	var f Fsinfo
	f.Gen = number[uint64](r)
	f.Blocks = number[uint32](r)
	f.Cursor = number[uint32](r)
	f.Clock = number[uint64](r)
	f.Ops = number[uint64](r)
	f.Every = number[uint32](r)
	f.Log = number[uint32](r)
	f.Ino = readRoot(r)
	f.Map = readRoot(r)
	for i := range f.Snaps {
		f.Snaps[i] = number[uint32](r)
	}
	return f
}

// EncodeFsinfo lays the root record down, see chapter 3.
func EncodeFsinfo(f Fsinfo) ([]byte, int) {
	if err := fsinfoFault(f, ErrInval); err != nil {
		return nil, codeOf(err)
	}
	return layFsinfo(f), OK
}

// DecodeFsinfo reads the root record, see chapter 3.
func DecodeFsinfo(b []byte) (Fsinfo, int) {
	r := newBlockReader(b, fsinfoLetters)
	f := readFsinfo(r)
	r.end(sumAt)
	r.inside("root record", fsinfoFault(f, r.code))
	return told(f, r.err)
}

func snapFault(s Snap, code int) error {
	c := check{code: code}
	c.within("Plane", s.Plane, 1, Planes)
	c.need("Name", CheckName(s.Name) == OK)
	c.within("Gen", s.Gen, 1, MaxClock)
	c.within("Clock", s.Clock, 1, MaxClock)
	c.inside("Root", tableRootFault(s.Root, code))
	return c.err
}

func laySnap(s Snap) []byte {
	out := layLetters(snapLetters)
	out = lay(out, uint8(s.Plane))
	out = lay(out, uint8(len(s.Name)))
	out = append(out, s.Name...)
	out = layZeros(out, 40)
	out = lay(out, uint64(s.Gen))
	out = lay(out, uint64(s.Clock))
	out = layRoot(out, s.Root)
	return laySum(out)
}

func readSnap(r *reader) Snap {
	var s Snap
	s.Plane = number[uint8](r)
	// A name longer than its field is refused by what is asked behind it.
	s.Name = string(r.take(number[uint8](r)))
	r.zeros(40)
	s.Gen = number[uint64](r)
	s.Clock = number[uint64](r)
	s.Root = readRoot(r)
	return s
}

// EncodeSnap lays a snapshot's block down, see chapter 3.
func EncodeSnap(s Snap) ([]byte, int) {
	if err := snapFault(s, ErrInval); err != nil {
		return nil, codeOf(err)
	}
	return laySnap(s), OK
}

// DecodeSnap reads a snapshot's block, see chapter 3.
func DecodeSnap(b []byte) (Snap, int) {
	r := newBlockReader(b, snapLetters)
	s := readSnap(r)
	r.end(sumAt)
	r.inside("snapshot", snapFault(s, r.code))
	return told(s, r.err)
}

// EncodeWords lays words down, see chapter 3.
func EncodeWords(w []int) ([]byte, int) {
	c := check{code: ErrInval}
	c.need("length", len(w) == Fanout)
	if c.err != nil {
		return nil, codeOf(c.err)
	}
	out := make([]byte, 0, BlockSize)
	for _, n := range w {
		c.within("word", n, 0, maxWord)
		out = lay(out, uint32(n))
	}
	return told(out, c.err)
}

// DecodeWords reads words, see chapter 3.
func DecodeWords(b []byte) ([]int, int) {
	if len(b) != BlockSize {
		return nil, ErrCorrupt
	}
	return wordsOf(b), OK
}

// wordsOf reads words, as many as the bytes have whole. It does without a reader, since
// an image has very many of them.
func wordsOf(b []byte) []int {
	words := make([]int, len(b)/wordBytes)
	for i := range words {
		w := [wordBytes]byte(b[i*wordBytes:])
		words[i] = int(w[0]) | int(w[1])<<8 | int(w[2])<<16 | int(w[3])<<24
	}
	return words
}
