package disk

// maxName: the most bytes of a name.
const maxName = 32

// file: its bytes, of which the first synced are durable.
type file struct {
	bytes  []byte
	synced int
}

// cut: the first size bytes stay.
func (f *file) cut(size int) {
	f.bytes = f.bytes[:size]
	f.synced = min(f.synced, size)
}

// sync: all bytes are durable.
func (f *file) sync() { f.synced = len(f.bytes) }

// lose: at most keep of the loose bytes survive, and what survives is durable.
func (f *file) lose(keep int) {
	loose := len(f.bytes) - f.synced
	f.cut(f.synced + min(loose, keep))
	f.sync()
}

// isName: whether a file may be named so.
func isName(name string) bool {
	if len(name) == 0 || len(name) > maxName {
		return false
	}
	for i := range len(name) {
		if !inName(name[i]) {
			return false
		}
	}
	return true
}

// inName: whether a byte may stand in a name.
func inName(c byte) bool {
	return 'a' <= c && c <= 'z' || '0' <= c && c <= '9' || c == '.' || c == '-' || c == '_'
}
