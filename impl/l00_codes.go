package impl

const (
	MaxText = 65536
	MaxList = 4096
	MaxName = 40

	OK         = 0
	ErrBad     = 1
	ErrLong    = 2
	ErrForm    = 3
	ErrRange   = 4
	ErrNone    = 5
	ErrMany    = 6
	ErrFull    = 7
	ErrSum     = 8
	ErrTwice   = 9
	ErrProof   = 10
	ErrRoot    = 11
	ErrSigned  = 12
	ErrUsed    = 13
	ErrLeader  = 14
	ErrAgain   = 15
	ErrLate    = 16
	ErrConfig  = 17
	ErrExpired = 18
	ErrFork    = 19
)

// codeWords has the word of each code at the code's own place.
var codeWords = [20]string{
	"ok", "bad", "long", "form", "range",
	"none", "many", "full", "sum", "twice",
	"proof", "root", "signed", "used", "leader",
	"again", "late", "config", "expired", "fork",
}

// NameOK tells whether t is a name.
func NameOK(t string) bool {
	if len(t) < 1 || len(t) > MaxName || isDigit(t[0]) {
		return false
	}
	for i := range len(t) {
		if !isNameStart(t[i]) && !isDigit(t[i]) {
			return false
		}
	}
	return true
}

func isNameStart(c byte) bool {
	return c >= 'a' && c <= 'z' || c >= 'A' && c <= 'Z' || c == '_'
}

func isDigit(c byte) bool {
	return c >= '0' && c <= '9'
}

// CodeWord tells the word of a code, the empty text of any other number.
func CodeWord(code int) string {
	if code < 0 || code >= len(codeWords) {
		return ""
	}
	return codeWords[code]
}

// CodeOf tells the code of a word, -1 of any other text.
func CodeOf(word string) int {
	for code := range len(codeWords) {
		if codeWords[code] == word {
			return code
		}
	}
	return -1
}
