package tests

import (
	"bytes"
	"go/ast"
	"go/format"
	"go/importer"
	"go/parser"
	"go/token"
	"go/types"
	"os"
	"path/filepath"
	"strings"
	"testing"
)

const allowedImports = " bytes cmp container/heap errors iter maps math math/bits slices sort strconv strings sync sync/atomic unicode unicode/utf8 "

const maxLinesOfAFunction = 60

func TestProgramKeepsToItsLanguage(t *testing.T) {
	paths, err := filepath.Glob("../impl/*")
	if err != nil {
		t.Fatal(err)
	}
	if len(paths) < 20 {
		t.Fatalf("only %d files in impl", len(paths))
	}
	for _, path := range paths {
		if strings.HasSuffix(path, "_test.go") {
			continue
		}
		if !strings.HasSuffix(path, ".go") {
			t.Errorf("%s is no Go file", path)
			continue
		}
		text, err := os.ReadFile(path)
		if err != nil {
			t.Fatal(err)
		}
		checkLayout(t, path, text)
		checkSyntax(t, path, text)
	}
}

func checkLayout(t *testing.T, path string, text []byte) {
	neat, err := format.Source(text)
	if err != nil {
		t.Fatal(err)
	}
	if !bytes.Equal(neat, text) {
		t.Errorf("%s is not in gofmt's layout", path)
	}
	for _, mark := range []string{"//go:", "// +build"} {
		if bytes.Contains(text, []byte(mark)) {
			t.Errorf("%s has a line with %s", path, mark)
		}
	}
}

func checkSyntax(t *testing.T, path string, text []byte) {
	files := token.NewFileSet()
	file, err := parser.ParseFile(files, path, text, 0)
	if err != nil {
		t.Fatal(err)
	}
	for _, i := range file.Imports {
		if name := strings.Trim(i.Path.Value, `"`); !strings.Contains(allowedImports, " "+name+" ") {
			t.Errorf("%s imports %s", path, name)
		}
	}
	for _, d := range file.Decls {
		f, ok := d.(*ast.FuncDecl)
		if !ok {
			continue
		}
		if n := files.Position(f.End()).Line - files.Position(f.Pos()).Line + 1; n > maxLinesOfAFunction {
			t.Errorf("%s: %s has %d lines", path, f.Name.Name, n)
		}
	}
}

// No answer tells how the next one is found, so the text is asked: the document wants a heap there.
func TestOrderWaitsInAHeap(t *testing.T) {
	file, err := parser.ParseFile(token.NewFileSet(), "../impl/l03_order.go", nil, 0)
	if err != nil {
		t.Fatal(err)
	}
	calls := map[string]int{}
	ast.Inspect(file, func(n ast.Node) bool {
		if call, ok := n.(*ast.CallExpr); ok {
			if f, ok := call.Fun.(*ast.SelectorExpr); ok {
				if from, ok := f.X.(*ast.Ident); ok {
					calls[from.Name+"."+f.Sel.Name]++
				}
			}
		}
		return true
	})
	for _, name := range []string{"heap.Push", "heap.Pop"} {
		if calls[name] == 0 {
			t.Errorf("%s is not called in l03_order.go", name)
		}
	}
}

// Nor does an answer tell how a kind is numbered or a case goes on: the document wants iota and fallthrough there.
func TestDeedsByIotaAndFallthrough(t *testing.T) {
	file, err := parser.ParseFile(token.NewFileSet(), "../impl/l04_deed.go", nil, 0)
	if err != nil {
		t.Fatal(err)
	}
	met := map[string]int{}
	ast.Inspect(file, func(n ast.Node) bool {
		switch x := n.(type) {
		case *ast.Ident:
			met[x.Name]++
		case *ast.BranchStmt:
			met[x.Tok.String()]++
		}
		return true
	})
	for _, way := range []string{"iota", "fallthrough"} {
		if met[way] == 0 {
			t.Errorf("there is no %s in l04_deed.go", way)
		}
	}
}

// lookAtProgram tells what types know of the whole program; where in it something stands is told by the positions.
func lookAtProgram(t *testing.T) (*token.FileSet, []*ast.File, *types.Info) {
	t.Helper()
	paths, err := filepath.Glob("../impl/*.go")
	if err != nil {
		t.Fatal(err)
	}
	set := token.NewFileSet()
	files := []*ast.File{}
	for _, path := range paths {
		file, err := parser.ParseFile(set, path, nil, 0)
		if err != nil {
			t.Fatal(err)
		}
		files = append(files, file)
	}
	info := &types.Info{Defs: map[*ast.Ident]types.Object{}, Types: map[ast.Expr]types.TypeAndValue{}, Selections: map[*ast.SelectorExpr]*types.Selection{}}
	config := types.Config{Importer: importer.ForCompiler(set, "source", nil)}
	if _, err := config.Check("impl", set, files, info); err != nil {
		t.Fatal(err)
	}
	return set, files, info
}

// What a selector reaches through an embedded part is told by types alone, so the whole program is looked at.
func TestClerkUsesTheMethodsOfItsDeeds(t *testing.T) {
	set, _, info := lookAtProgram(t)
	promoted := 0
	for at, chosen := range info.Selections {
		inWork := filepath.Base(set.Position(at.Pos()).Filename) == "l05_work.go"
		if inWork && chosen.Kind() == types.MethodVal && len(chosen.Index()) > 1 {
			promoted++
		}
	}
	if promoted == 0 {
		t.Error("no method of an embedded part is used in l05_work.go")
	}
}

// An event answers the same however it was told apart: the document wants a type switch over shapes of the program's own.
func TestEventsAreToldApartByATypeSwitch(t *testing.T) {
	file, err := parser.ParseFile(token.NewFileSet(), "../impl/l06_event.go", nil, 0)
	if err != nil {
		t.Fatal(err)
	}
	own, asked := map[string]bool{}, []string{}
	ast.Inspect(file, func(n ast.Node) bool {
		switch x := n.(type) {
		case *ast.TypeSpec:
			own[x.Name.Name] = true
		case *ast.TypeSwitchStmt:
			asked = append(asked, typesAsked(x)...)
		}
		return true
	})
	if len(asked) < 2 {
		t.Errorf("only %v are asked for in l06_event.go", asked)
	}
	for _, name := range asked {
		if !own[name] {
			t.Errorf("%s is no shape of l06_event.go", name)
		}
	}
}

func typesAsked(s *ast.TypeSwitchStmt) []string {
	names := []string{}
	for _, clause := range s.Body.List {
		for _, of := range clause.(*ast.CaseClause).List {
			if name, ok := of.(*ast.Ident); ok {
				names = append(names, name.Name)
			}
		}
	}
	return names
}

// A line is the same whoever draws it: the document wants a variadic helper for it.
func TestLinesByAVariadicHelper(t *testing.T) {
	file, err := parser.ParseFile(token.NewFileSet(), "../impl/l07_line.go", nil, 0)
	if err != nil {
		t.Fatal(err)
	}
	helpers, faces, users := map[string]bool{}, 0, 0
	for _, d := range file.Decls {
		if f, ok := d.(*ast.FuncDecl); ok && isVariadic(f) {
			helpers[f.Name.Name] = true
		}
	}
	for _, d := range file.Decls {
		if f, ok := d.(*ast.FuncDecl); ok && f.Name.IsExported() {
			faces++
			if callsOneOf(f, helpers) {
				users++
			}
		}
	}
	if faces != 3 || users != faces {
		t.Errorf("%d of %d functions draw by a variadic helper of l07_line.go: %v", users, faces, helpers)
	}
}

func isVariadic(f *ast.FuncDecl) bool {
	n := len(f.Type.Params.List)
	if n == 0 {
		return false
	}
	_, is := f.Type.Params.List[n-1].Type.(*ast.Ellipsis)
	return is
}

func callsOneOf(within ast.Node, names map[string]bool) bool {
	calls := false
	ast.Inspect(within, func(n ast.Node) bool {
		if call, ok := n.(*ast.CallExpr); ok {
			name, ok := call.Fun.(*ast.Ident)
			calls = calls || ok && names[name.Name]
		}
		return true
	})
	return calls
}

// A source is the same however one comes to it: the document wants them gone through by a range over a function.
func TestSourcesByARangeOverAFunction(t *testing.T) {
	set, files, info := lookAtProgram(t)
	through := map[string]bool{}
	for _, file := range files {
		if filepath.Base(set.Position(file.Pos()).Filename) != "l08_from.go" {
			continue
		}
		for _, d := range file.Decls {
			if f, ok := d.(*ast.FuncDecl); ok && rangesOverAFunction(f, info) {
				through[f.Name.Name] = true
			}
		}
	}
	for _, name := range []string{"SourcesCount", "SourceAt"} {
		if !through[name] {
			t.Errorf("%s goes through its sources by no range over a function", name)
		}
	}
}

func rangesOverAFunction(f *ast.FuncDecl, info *types.Info) bool {
	ranges := false
	ast.Inspect(f, func(n ast.Node) bool {
		if loop, ok := n.(*ast.RangeStmt); ok {
			_, is := info.TypeOf(loop.X).Underlying().(*types.Signature)
			ranges = ranges || is
		}
		return true
	})
	return ranges
}

// A rows is the same whoever makes it: the document wants a walk for it whose ways back are labels.
func TestRowsByAWalkWithGoto(t *testing.T) {
	file, err := parser.ParseFile(token.NewFileSet(), "../impl/l09_row.go", nil, 0)
	if err != nil {
		t.Fatal(err)
	}
	walks := map[string]bool{}
	for _, d := range file.Decls {
		if f, ok := d.(*ast.FuncDecl); ok && goesBackByGoto(f) {
			walks[f.Name.Name] = true
		}
	}
	for _, d := range file.Decls {
		f, ok := d.(*ast.FuncDecl)
		if ok && (f.Name.Name == "RowsCount" || f.Name.Name == "RowsAt") && !callsOneOf(f, walks) {
			t.Errorf("%s makes its rows by no walk of l09_row.go that goes back by goto: %v", f.Name.Name, walks)
		}
	}
}

// goesBackByGoto asks for a goto that stands behind its label.
func goesBackByGoto(f *ast.FuncDecl) bool {
	labels, goesBack := map[string]bool{}, false
	ast.Inspect(f, func(n ast.Node) bool {
		switch x := n.(type) {
		case *ast.LabeledStmt:
			labels[x.Label.Name] = true
		case *ast.BranchStmt:
			goesBack = goesBack || x.Tok == token.GOTO && labels[x.Label.Name]
		}
		return true
	})
	return goesBack
}

// A tale is right or not however it is held: the document wants arrays for it that are compared.
func TestTalesAreArraysThatAreCompared(t *testing.T) {
	set, files, info := lookAtProgram(t)
	compare := map[string]bool{}
	for _, file := range files {
		if filepath.Base(set.Position(file.Pos()).Filename) != "l10_tale.go" {
			continue
		}
		for _, d := range file.Decls {
			if f, ok := d.(*ast.FuncDecl); ok && comparesArrays(f, info) {
				compare[f.Name.Name] = true
			}
		}
		for _, d := range file.Decls {
			if f, ok := d.(*ast.FuncDecl); ok && f.Name.Name == "TaleOk" && !comparesArrays(f, info) && !namesOneOf(f, compare) {
				t.Errorf("TaleOk asks by no arrays that are compared in l10_tale.go: %v", compare)
			}
		}
	}
}

func comparesArrays(f *ast.FuncDecl, info *types.Info) bool {
	compares := false
	ast.Inspect(f, func(n ast.Node) bool {
		if x, ok := n.(*ast.BinaryExpr); ok && (x.Op == token.EQL || x.Op == token.NEQ) {
			_, is := info.TypeOf(x.X).Underlying().(*types.Array)
			compares = compares || is
		}
		return true
	})
	return compares
}

// namesOneOf finds methods, too.
func namesOneOf(f *ast.FuncDecl, names map[string]bool) bool {
	named := false
	ast.Inspect(f.Body, func(n ast.Node) bool {
		if name, ok := n.(*ast.Ident); ok {
			named = named || names[name.Name]
		}
		return true
	})
	return named
}

// A web is the same however it is joined: the document wants closures for it.
func TestWebsAreJoinedByClosures(t *testing.T) {
	file, err := parser.ParseFile(token.NewFileSet(), "../impl/l11_each.go", nil, 0)
	if err != nil {
		t.Fatal(err)
	}
	join, users := map[string]bool{}, 0
	for _, d := range file.Decls {
		if f, ok := d.(*ast.FuncDecl); ok && joinsByAClosure(f) {
			join[f.Name.Name] = true
		}
	}
	for _, d := range file.Decls {
		if f, ok := d.(*ast.FuncDecl); ok && f.Name.Name == "PlaceWeb" && (join[f.Name.Name] || callsOneOf(f, join)) {
			users++
		}
	}
	if users != 1 {
		t.Errorf("PlaceWeb joins its webs by no closure of l11_each.go: %v", join)
	}
}

func joinsByAClosure(f *ast.FuncDecl) bool {
	joins := false
	ast.Inspect(f, func(n ast.Node) bool {
		if closure, ok := n.(*ast.FuncLit); ok {
			joins = joins || callsOneOf(closure, map[string]bool{"Joined": true})
		}
		return true
	})
	return joins
}

// What must be ahead of what is the same however it is listed: the document wants a generic list for it.
func TestWhatMustBeAheadIsAGenericList(t *testing.T) {
	lists := map[string]bool{}
	for _, file := range filesNamed(t, "l12_slow.go") {
		lists = genericLists(file)
	}
	files := filesNamed(t, "l12_slow.go", "l13_strict.go")
	for _, file := range files {
		for _, d := range file.Decls {
			// A function that makes such a list is as good as the list's own name.
			if f, ok := d.(*ast.FuncDecl); ok && f.Recv == nil && !f.Name.IsExported() && namesOneOf(f, lists) {
				lists[f.Name.Name] = true
			}
		}
	}
	for _, name := range []string{"FromOthers", "SlowWeb", "StrictWeb"} {
		if f := functionNamed(files, name); f == nil || !namesOneOf(f, lists) {
			t.Errorf("%s uses no generic list of l12_slow.go: %v", name, lists)
		}
	}
}

func filesNamed(t *testing.T, names ...string) []*ast.File {
	t.Helper()
	files := []*ast.File{}
	for _, name := range names {
		file, err := parser.ParseFile(token.NewFileSet(), "../impl/"+name, nil, 0)
		if err != nil {
			t.Fatal(err)
		}
		files = append(files, file)
	}
	return files
}

func functionNamed(files []*ast.File, name string) *ast.FuncDecl {
	for _, file := range files {
		for _, d := range file.Decls {
			if f, ok := d.(*ast.FuncDecl); ok && f.Recv == nil && f.Name.Name == name {
				return f
			}
		}
	}
	return nil
}

func genericLists(file *ast.File) map[string]bool {
	lists := map[string]bool{}
	ast.Inspect(file, func(n ast.Node) bool {
		if x, ok := n.(*ast.TypeSpec); ok && x.TypeParams != nil {
			of, is := x.Type.(*ast.ArrayType)
			lists[x.Name.Name] = is && of.Len == nil
		}
		return true
	})
	return lists
}

// A web is the same whatever it stands behind: the document wants two of them behind an interface, and another interface that is asked for by an assertion.
func TestTwoWebsStandBehindAnInterface(t *testing.T) {
	set, files, info := lookAtProgram(t)
	calls, asks := 0, 0
	for _, file := range files {
		if filepath.Base(set.Position(file.Pos()).Filename) != "l13_strict.go" {
			continue
		}
		ast.Inspect(file, func(n ast.Node) bool {
			switch x := n.(type) {
			case *ast.SelectorExpr:
				if chosen := info.Selections[x]; chosen != nil && len(takersOf(info, chosen.Recv())) == 2 {
					calls++
				}
			case *ast.TypeAssertExpr:
				if x.Type != nil && len(takersOf(info, info.TypeOf(x.X))) == 2 && len(takersOf(info, info.TypeOf(x.Type))) == 1 {
					asks++
				}
			}
			return true
		})
	}
	if calls == 0 || asks == 0 {
		t.Errorf("in l13_strict.go %d calls go through an interface that two types have, %d assertions ask for one that one of them has", calls, asks)
	}
}

// takersOf are the structs of the program that have an interface of its own.
func takersOf(info *types.Info, of types.Type) []string {
	want, is := of.Underlying().(*types.Interface)
	names := []string{}
	if !is || want.Empty() {
		return names
	}
	for name, o := range info.Defs {
		if _, isType := o.(*types.TypeName); !isType {
			continue
		}
		if _, isStruct := o.Type().Underlying().(*types.Struct); isStruct && types.Implements(o.Type(), want) {
			names = append(names, name.Name)
		}
	}
	return names
}

// What can't be has its answer however one comes to it: the document wants it given up by panic, and made a zero by recover at the face.
func TestWhatCantBeGivesUp(t *testing.T) {
	files := filesNamed(t, "l14_board.go")
	giveUp, more := map[string]bool{"panic": true}, true
	for more {
		more = false
		for _, d := range files[0].Decls {
			if f, ok := d.(*ast.FuncDecl); ok && !f.Name.IsExported() && !giveUp[f.Name.Name] && namesOneOf(f, giveUp) {
				giveUp[f.Name.Name], more = true, true
			}
		}
	}
	for _, name := range []string{"BoardOk", "NewBoard", "Reading", "Ended", "ShownBoard"} {
		f := functionNamed(files, name)
		if f == nil || !namesOneOf(f, giveUp) || !recoversFirst(f) {
			t.Errorf("%s gives up by no panic of l14_board.go that it recovers from: %v", name, giveUp)
		}
	}
}

// recoversFirst asks for a deferred function literal ahead of all else, so that nothing can give up before it stands.
func recoversFirst(f *ast.FuncDecl) bool {
	if len(f.Body.List) == 0 {
		return false
	}
	first, is := f.Body.List[0].(*ast.DeferStmt)
	if !is {
		return false
	}
	literal, is := first.Call.Fun.(*ast.FuncLit)
	return is && callsOneOf(literal, map[string]bool{"recover": true})
}

// A step is done however it is found: the document wants steps to be function fields of a table.
func TestStepsAreFunctionFieldsOfATable(t *testing.T) {
	set, files, info := lookAtProgram(t)
	for _, file := range files {
		if filepath.Base(set.Position(file.Pos()).Filename) != "l15_step.go" {
			continue
		}
		tables := map[string]bool{}
		for _, d := range file.Decls {
			if f, ok := d.(*ast.FuncDecl); ok && makesATableOfFunctions(f, info) {
				tables[f.Name.Name] = true
			}
		}
		for _, name := range []string{"Possible", "Stepped"} {
			f := functionNamed([]*ast.File{file}, name)
			if f == nil || !callsOneOf(f, tables) || !callsAField(f, info) {
				t.Errorf("%s calls no function field of a table of l15_step.go: %v", name, tables)
			}
		}
	}
}

// makesATableOfFunctions asks for a literal list of structs that have a function in a field.
func makesATableOfFunctions(f *ast.FuncDecl, info *types.Info) bool {
	makes := false
	ast.Inspect(f, func(n ast.Node) bool {
		literal, ok := n.(*ast.CompositeLit)
		if !ok || len(literal.Elts) < 2 {
			return true
		}
		list, isList := info.TypeOf(literal).Underlying().(*types.Slice)
		if !isList {
			return true
		}
		row, isStruct := list.Elem().Underlying().(*types.Struct)
		for i := 0; isStruct && i < row.NumFields(); i++ {
			_, is := row.Field(i).Type().Underlying().(*types.Signature)
			makes = makes || is
		}
		return true
	})
	return makes
}

func callsAField(f *ast.FuncDecl, info *types.Info) bool {
	calls := false
	ast.Inspect(f, func(n ast.Node) bool {
		if call, ok := n.(*ast.CallExpr); ok {
			if field, ok := call.Fun.(*ast.SelectorExpr); ok {
				chosen := info.Selections[field]
				calls = calls || chosen != nil && chosen.Kind() == types.FieldVal
			}
		}
		return true
	})
	return calls
}

// What comes of a work is the same however the boards are kept: the document wants them to be keys of a map, which is cleared, and compared as structs.
func TestBoardsAreKeysOfAMap(t *testing.T) {
	set, files, info := lookAtProgram(t)
	for _, file := range files {
		if filepath.Base(set.Position(file.Pos()).Filename) != "l16_walk.go" {
			continue
		}
		keep, walk := map[string]bool{}, map[string]bool{}
		for _, d := range file.Decls {
			if f, ok := d.(*ast.FuncDecl); ok && asksByStructs(f, info) {
				keep[f.Name.Name] = true
			}
		}
		for _, d := range file.Decls {
			if f, ok := d.(*ast.FuncDecl); ok && clearsStructs(f, info) && (keep[f.Name.Name] || namesOneOf(f, keep)) {
				walk[f.Name.Name] = true
			}
		}
		for _, name := range []string{"Ends", "QuickEnds"} {
			if f := functionNamed([]*ast.File{file}, name); f == nil || !walk[name] && !callsOneOf(f, walk) {
				t.Errorf("%s keeps its boards in no map of l16_walk.go that is cleared: %v, %v", name, keep, walk)
			}
		}
	}
}

// isMapByStructs is of a map whose keys are held against each other as structs.
func isMapByStructs(of types.Type) bool {
	if of == nil {
		return false
	}
	kept, is := of.Underlying().(*types.Map)
	if !is {
		return false
	}
	_, is = kept.Key().Underlying().(*types.Struct)
	return is
}

func asksByStructs(f *ast.FuncDecl, info *types.Info) bool {
	asks := false
	ast.Inspect(f, func(n ast.Node) bool {
		if x, ok := n.(*ast.IndexExpr); ok {
			asks = asks || isMapByStructs(info.TypeOf(x.X))
		}
		return true
	})
	return asks
}

func clearsStructs(f *ast.FuncDecl, info *types.Info) bool {
	clears := false
	ast.Inspect(f, func(n ast.Node) bool {
		if call, ok := n.(*ast.CallExpr); ok && len(call.Args) == 1 {
			name, ok := call.Fun.(*ast.Ident)
			clears = clears || ok && name.Name == "clear" && isMapByStructs(info.TypeOf(call.Args[0]))
		}
		return true
	})
	return clears
}

// What is told is the same whoever asks the tales: the document wants SlowTold alone to ask them by goroutines that a WaitGroup joins, and that send over a channel that is closed.
func TestSlowToldAloneAsksByGoroutines(t *testing.T) {
	set, files, info := lookAtProgram(t)
	atOnce := map[string]bool{}
	for _, file := range files {
		name := filepath.Base(set.Position(file.Pos()).Filename)
		for _, d := range file.Decls {
			ways := goroutineWays(d, info)
			if len(ways) > 0 && name != "l17_told.go" {
				t.Errorf("%s has %v", name, ways)
			}
			if f, ok := d.(*ast.FuncDecl); ok && len(ways) > 0 {
				atOnce[f.Name.Name] = true
			}
		}
	}
	told, met := filesNamed(t, "l17_told.go"), map[string]bool{}
	for name := range reachedIn(told, "SlowTold") {
		for way := range goroutineWays(declaredAs(set, files, "l17_told.go", name), info) {
			met[way] = true
		}
	}
	for _, way := range []string{"goroutine", "WaitGroup", "Wait", "channel", "send", "close"} {
		if !met[way] {
			t.Errorf("SlowTold asks its tales without a %s: %v", way, met)
		}
	}
	for name := range reachedIn(told, "StrictTold") {
		if atOnce[name] {
			t.Errorf("StrictTold asks its tales by goroutines, in %s", name)
		}
	}
}

// goroutineWays are those by which something runs beside, is joined, and tells what it found.
func goroutineWays(within ast.Node, info *types.Info) map[string]bool {
	ways := map[string]bool{}
	ast.Inspect(within, func(n ast.Node) bool {
		switch x := n.(type) {
		case *ast.GoStmt:
			ways["goroutine"] = true
		case *ast.ChanType:
			ways["channel"] = true
		case *ast.SendStmt:
			ways["send"] = true
		case *ast.CallExpr:
			if name, ok := x.Fun.(*ast.Ident); ok && name.Name == "close" {
				ways["close"] = true
			}
		case *ast.SelectorExpr:
			if chosen := info.Selections[x]; chosen != nil && strings.HasSuffix(chosen.Recv().String(), "sync.WaitGroup") {
				ways["WaitGroup"] = true
				ways[x.Sel.Name] = true
				ways["goroutine"] = ways["goroutine"] || x.Sel.Name == "Go"
			}
		}
		return true
	})
	return ways
}

// declaredAs is looked for where types are known.
func declaredAs(set *token.FileSet, files []*ast.File, base string, name string) *ast.FuncDecl {
	for _, file := range files {
		if filepath.Base(set.Position(file.Pos()).Filename) == base {
			return functionNamed([]*ast.File{file}, name)
		}
	}
	return nil
}

// reachedIn are the functions of these files that one of them comes to, itself among them.
func reachedIn(files []*ast.File, first string) map[string]bool {
	reached, more := map[string]bool{first: true}, true
	for more {
		more = false
		for _, file := range files {
			for _, d := range file.Decls {
				f, ok := d.(*ast.FuncDecl)
				if !ok || f.Recv != nil || reached[f.Name.Name] {
					continue
				}
				for name := range reached {
					if from := functionNamed(files, name); from != nil && namesOneOf(from, map[string]bool{f.Name.Name: true}) {
						reached[f.Name.Name], more = true, true
						break
					}
				}
			}
		}
	}
	return reached
}

// What is refused has its answer whatever is told of it: the document wants it to be an error that is wrapped, and asked by errors.Is and errors.As.
func TestWhatIsRefusedIsAWrappedError(t *testing.T) {
	files := filesNamed(t, "l18_judge.go")
	wraps, refuse := wrappersIn(files[0]), map[string]bool{}
	for _, d := range files[0].Decls {
		if f, ok := d.(*ast.FuncDecl); ok && makesOneOf(f, wraps) {
			refuse[f.Name.Name] = true
		}
	}
	asked := map[string]bool{}
	for _, face := range []string{"AskOk", "Meets", "Judged", "ReadAsk"} {
		refuses, asks := false, false
		for name := range reachedIn(files, face) {
			f := functionNamed(files, name)
			if f == nil {
				continue
			}
			refuses = refuses || refuse[name] || namesOneOf(f, refuse)
			for _, way := range errorsAsked(f) {
				asked[way], asks = true, true
			}
		}
		if !refuses || !asks {
			t.Errorf("%s asks for no error that l18_judge.go wraps: %v, made by %v", face, wraps, refuse)
		}
	}
	if !asked["Is"] || !asked["As"] {
		t.Errorf("asked in l18_judge.go: %v", asked)
	}
}

// wrappersIn are the types that have an Unwrap, by which errors.Is and errors.As find what is behind them.
func wrappersIn(file *ast.File) map[string]bool {
	wraps := map[string]bool{}
	for _, d := range file.Decls {
		f, ok := d.(*ast.FuncDecl)
		if !ok || f.Recv == nil || f.Name.Name != "Unwrap" {
			continue
		}
		if of, ok := f.Recv.List[0].Type.(*ast.Ident); ok {
			wraps[of.Name] = true
		}
	}
	return wraps
}

func makesOneOf(f *ast.FuncDecl, types map[string]bool) bool {
	makes := false
	ast.Inspect(f, func(n ast.Node) bool {
		if literal, ok := n.(*ast.CompositeLit); ok {
			of, ok := literal.Type.(*ast.Ident)
			makes = makes || ok && types[of.Name]
		}
		return true
	})
	return makes
}

// errorsAsked are the names of errors.Is and errors.As where it calls them.
func errorsAsked(f *ast.FuncDecl) []string {
	names := []string{}
	ast.Inspect(f, func(n ast.Node) bool {
		if call, ok := n.(*ast.CallExpr); ok {
			if asked, ok := call.Fun.(*ast.SelectorExpr); ok && (asked.Sel.Name == "Is" || asked.Sel.Name == "As") {
				if from, ok := asked.X.(*ast.Ident); ok && from.Name == "errors" {
					names = append(names, asked.Sel.Name)
				}
			}
		}
		return true
	})
	return names
}

// Steps are the same however a loop comes to its end: the document wants one that a label leaves.
func TestStepsByALoopThatALabelLeaves(t *testing.T) {
	files := filesNamed(t, "l19_witness.go")
	leave, more := map[string]bool{}, true
	for more {
		more = false
		for _, d := range files[0].Decls {
			f, ok := d.(*ast.FuncDecl)
			if ok && !leave[f.Name.Name] && (leavesByALabel(f) || namesOneOf(f, leave)) {
				leave[f.Name.Name], more = true, true
			}
		}
	}
	if !leave["StepsFor"] || !leave["Faithful"] {
		t.Errorf("StepsFor leaves no loop of l19_witness.go by a label: %v", leave)
	}
}

// leavesByALabel asks for a break that would leave no more than a switch or an inner loop if it named no label.
func leavesByALabel(f *ast.FuncDecl) bool {
	leaves := false
	ast.Inspect(f, func(n ast.Node) bool {
		if labeled, ok := n.(*ast.LabeledStmt); ok {
			leaves = leaves || isLeftWithin(labeled.Stmt, labeled.Label.Name)
		}
		return true
	})
	return leaves
}

func isLeftWithin(loop ast.Stmt, label string) bool {
	var body *ast.BlockStmt
	switch x := loop.(type) {
	case *ast.ForStmt:
		body = x.Body
	case *ast.RangeStmt:
		body = x.Body
	default:
		return false
	}
	left := false
	ast.Inspect(body, func(n ast.Node) bool {
		switch n.(type) {
		case *ast.SwitchStmt, *ast.TypeSwitchStmt, *ast.SelectStmt, *ast.ForStmt, *ast.RangeStmt:
			left = left || breaksBy(n, label)
		}
		return true
	})
	return left
}

func breaksBy(within ast.Node, label string) bool {
	breaks := false
	ast.Inspect(within, func(n ast.Node) bool {
		if x, ok := n.(*ast.BranchStmt); ok && x.Tok == token.BREAK && x.Label != nil {
			breaks = breaks || x.Label.Name == label
		}
		return true
	})
	return breaks
}
