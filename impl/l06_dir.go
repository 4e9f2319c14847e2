package impl

// MaxName bounds the bytes of a name.
const MaxName = 26

// Dirent is an entry of a directory.
type Dirent struct {
	Name      string
	Ino, Kind int
}

// CheckName looks at a name, see chapter 7.
func CheckName(name string) int {
	if name == "" || name == "." || name == ".." {
		return ErrInval
	}
	if len(name) > MaxName {
		return ErrNameLong
	}
	for _, letter := range name {
		if letter == '/' || letter == 0 {
			return ErrInval
		}
	}
	return OK
}

// DirCheck looks at the bytes of a directory, see chapter 7.
func DirCheck(content []byte) int { return 0 }

// DirFind finds a name: slot, entry, code; see chapter 7.
func DirFind(content []byte, name string) (int, Dirent, int) { return 0, Dirent{}, 0 }

// DirAdd puts an entry in, see chapter 7.
func DirAdd(content []byte, d Dirent) ([]byte, int) { return nil, 0 }

// DirRemove takes an entry out, see chapter 7.
func DirRemove(content []byte, name string) ([]byte, int) { return nil, 0 }

// DirList tells the entries, names rising; see chapter 7.
func DirList(content []byte) ([]Dirent, int) { return nil, 0 }
