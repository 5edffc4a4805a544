package impl

const (
	MaxText = 65536
	MaxList = 4096
	MaxName = 40

	OK         = 0
	ErrBad     = 1
	ErrLong    = 2
	ErrForm    = 3
	ErrRange   = 4
	ErrNone    = 5
	ErrMany    = 6
	ErrFull    = 7
	ErrSum     = 8
	ErrTwice   = 9
	ErrSealed  = 10
	ErrRoot    = 11
	ErrReplay  = 12
	ErrLate    = 13
	ErrMissing = 14
	ErrAborted = 15
	ErrSilent  = 16
	ErrQueue   = 17
	ErrAgain   = 18
	ErrZero    = 19
)

var codeWords = [...]string{
	OK:         "ok",
	ErrBad:     "bad",
	ErrLong:    "long",
	ErrForm:    "form",
	ErrRange:   "range",
	ErrNone:    "none",
	ErrMany:    "many",
	ErrFull:    "full",
	ErrSum:     "sum",
	ErrTwice:   "twice",
	ErrSealed:  "sealed",
	ErrRoot:    "root",
	ErrReplay:  "replay",
	ErrLate:    "late",
	ErrMissing: "missing",
	ErrAborted: "aborted",
	ErrSilent:  "silent",
	ErrQueue:   "queue",
	ErrAgain:   "again",
	ErrZero:    "zero",
}

func NameOK(t string) bool {
	if len(t) < 1 || len(t) > MaxName || isDigit(t[0]) {
		return false
	}
	for i := range len(t) {
		if !isLetter(t[i]) && !isDigit(t[i]) {
			return false
		}
	}
	return true
}

func isLetter(c byte) bool {
	return c >= 'a' && c <= 'z' || c >= 'A' && c <= 'Z' || c == '_'
}

func isDigit(c byte) bool {
	return c >= '0' && c <= '9'
}

func CodeWord(code int) string {
	if code < 0 || code >= len(codeWords) {
		return ""
	}
	return codeWords[code]
}

// CodeOf has an answer of its own, -1, for texts beyond MaxText too: the document asks for it however long they are.
func CodeOf(word string) int {
	for code, known := range codeWords {
		if word == known {
			return code
		}
	}
	return -1
}

// anyLong is asked ahead of all else, for ErrLong comes ahead of all other codes; bytes count as a text.
func anyLong[T string | []byte](texts ...T) bool {
	for _, t := range texts {
		if len(t) > MaxText {
			return true
		}
	}
	return false
}

func longList[T any](list []T) bool { return len(list) > MaxList }
