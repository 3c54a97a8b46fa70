package lex

import "justiciar/api"

// Word reports whether a string is a word of the grammar.
func Word(s string) bool { return s != "" && wordsWith(s[0])[s] }

// Name reports whether a string is a name: of at most MaxName bytes, and no word.
func Name(s string) bool {
	if s == "" || len(s) > api.MaxName || !isLetter(s[0]) {
		return false
	}
	r := reader{text: s}
	return r.run(isNamed) == s && !Word(s)
}

// wordsWith returns the words that begin with a letter. These maps are small because each is built anew for each string that is looked up.
func wordsWith(letter byte) map[string]bool {
	switch letter {
	case 'a':
		return setOf("add", "after", "all", "alter", "and", "array", "as", "autonomous")
	case 'b':
		return setOf("before", "begin", "between", "bool", "bulk", "by")
	case 'c':
		return setOf("cache", "case", "check", "close", "collect", "commit", "constraint", "count", "create", "cursor")
	case 'd':
		return setOf("declare", "default", "deferred", "delete", "desc", "distinct", "drop")
	case 'e':
		return setOf("each", "else", "elsif", "end", "exception", "execute", "exists", "exit")
	case 'f':
		return setOf("false", "fetch", "for", "forall", "foreign", "found", "from", "function")
	case 'g':
		return setOf("grant", "group")
	case 'h':
		return setOf("having")
	case 'i':
		return setOf("if", "in", "index", "insert", "int", "into", "invoker", "is", "isopen")
	case 'k':
		return setOf("key")
	case 'l':
		return setOf("like", "limit", "loop")
	case 'm':
		return setOf("mod")
	case 'n':
		return setOf("new", "not", "notfound", "null")
	case 'o':
		return setOf("of", "old", "on", "open", "or", "order", "out")
	case 'p':
		return setOf("package", "primary", "private", "procedure")
	case 'r':
		return setOf("raise", "references", "replace", "return", "reverse", "revoke", "rollback", "row", "rowcount")
	case 's':
		return setOf("savepoint", "select", "sequence", "set", "sql", "start")
	case 't':
		return setOf("table", "text", "then", "to", "trigger", "true")
	case 'u':
		return setOf("unique", "update", "user")
	case 'v':
		return setOf("values", "view")
	case 'w':
		return setOf("when", "where", "while")
	}
	return nil
}

func setOf(words ...string) map[string]bool {
	set := make(map[string]bool, len(words))
	for _, word := range words {
		set[word] = true
	}
	return set
}
