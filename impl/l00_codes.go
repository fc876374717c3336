package impl

const (
	MaxText = 65536
	MaxList = 4096
	MaxName = 40

	OK        = 0
	ErrBad    = 1
	ErrLong   = 2
	ErrForm   = 3
	ErrRange  = 4
	ErrNone   = 5
	ErrMany   = 6
	ErrFull   = 7
	ErrKey    = 8
	ErrOwner  = 9
	ErrDown   = 10
	ErrUp     = 11
	ErrFenced = 12
	ErrQuorum = 13
	ErrSum    = 14
	ErrTorn   = 15
	ErrCut    = 16
	ErrOrder  = 17
	ErrName   = 18
	ErrClosed = 19
)

var codeWords = [...]string{
	OK:        "ok",
	ErrBad:    "bad",
	ErrLong:   "long",
	ErrForm:   "form",
	ErrRange:  "range",
	ErrNone:   "none",
	ErrMany:   "many",
	ErrFull:   "full",
	ErrKey:    "key",
	ErrOwner:  "owner",
	ErrDown:   "down",
	ErrUp:     "up",
	ErrFenced: "fenced",
	ErrQuorum: "quorum",
	ErrSum:    "sum",
	ErrTorn:   "torn",
	ErrCut:    "cut",
	ErrOrder:  "order",
	ErrName:   "name",
	ErrClosed: "closed",
}

func NameOK(t string) bool {
	if len(t) < 1 || len(t) > MaxName || !startsName(t[0]) {
		return false
	}
	for i := 1; i < len(t); i++ {
		if !startsName(t[i]) && !isDigit(t[i]) {
			return false
		}
	}
	return true
}

func startsName(b byte) bool {
	return 'a' <= b && b <= 'z' || 'A' <= b && b <= 'Z' || b == '_'
}

func isDigit(b byte) bool { return '0' <= b && b <= '9' }

// The most letters that a key has.
const maxKey = 6

func keyOK(t string) bool {
	if len(t) < 1 || len(t) > maxKey {
		return false
	}
	for i := range len(t) {
		if t[i] < 'a' || t[i] > 'z' {
			return false
		}
	}
	return true
}

// keyFault tells what a call that is given a key alone looks for in it.
func keyFault(key string) int {
	switch {
	case len(key) > MaxText:
		return ErrLong
	case !keyOK(key):
		return ErrKey
	}
	return OK
}

func CodeWord(code int) string {
	if code < 0 || code >= len(codeWords) {
		return ""
	}
	return codeWords[code]
}

func CodeOf(word string) int {
	for code, w := range codeWords {
		if w == word {
			return code
		}
	}
	return -1
}
