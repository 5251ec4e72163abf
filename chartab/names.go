package chartab

// name is what a sign is called, and from which level on it is spoken.
type name struct {
	text  string
	level int
}

func names() map[int32]name {
	return map[int32]name{
		'.': {"dot", 1},
		'?': {"question", 1},
		'!': {"bang", 1},
		'@': {"at", 1},
		'$': {"dollar", 1},
		'%': {"percent", 1},
		'&': {"and", 1},
		'/': {"slash", 1},
		'#': {"number", 1},
		'*': {"star", 1},
		'+': {"plus", 1},
		'=': {"equals", 1},

		',':  {"comma", 2},
		';':  {"semicolon", 2},
		':':  {"colon", 2},
		'-':  {"dash", 2},
		'_':  {"line", 2},
		'<':  {"less", 2},
		'>':  {"greater", 2},
		'\\': {"backslash", 2},
		'|':  {"bar", 2},
		'~':  {"tilde", 2},
		'^':  {"caret", 2},

		'(':  {"left paren", 3},
		')':  {"right paren", 3},
		'[':  {"left bracket", 3},
		']':  {"right bracket", 3},
		'{':  {"left brace", 3},
		'}':  {"right brace", 3},
		'"':  {"quote", 3},
		'\'': {"tick", 3},
		'`':  {"grave", 3},
	}
}
