package scan

import "touchmark/api"

// Word returns whether s is a keyword.
func Word(s string) bool {
	switch s {
	case "select", "distinct", "from", "join", "left", "on", "where",
		"group", "by", "having", "order", "desc", "limit",
		"union", "all", "except", "as",
		"and", "or", "not", "null", "true", "false", "is", "in", "exists",
		"count", "sum", "min", "max",
		"create", "table", "view", "int", "text", "bool", "primary", "key",
		"insert", "into", "values", "delete", "update", "set", "commit", "abort":
		return true
	}
	return false
}

// Name returns whether s is a name.
func Name(s string) bool {
	if s == "" || len(s) > api.MaxName || !isLetter(s[0]) {
		return false
	}
	return run(s, isLetterOrDigit) == len(s) && !Word(s)
}

// run returns how many bytes at the beginning of s are of a kind.
func run(s string, is func(b byte) bool) int {
	n := 0
	for n < len(s) && is(s[n]) {
		n++
	}
	return n
}

func isLetter(b byte) bool {
	return b >= 'a' && b <= 'z'
}

func isDigit(b byte) bool {
	return b >= '0' && b <= '9'
}

func isLetterOrDigit(b byte) bool {
	return isLetter(b) || isDigit(b)
}
