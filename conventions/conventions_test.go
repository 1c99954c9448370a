// Package conventions holds the tests of the rules that all packages keep.
package conventions

import (
	"go/ast"
	"go/parser"
	"go/token"
	"os"
	"path/filepath"
	"slices"
	"strconv"
	"strings"
	"testing"
)

// rows is the column "depends on" of the document's map, one layer a line.
const rows = `
natural
integer natural
rational natural integer
numtext integer rational
quoting
binenc integer rational
checksum
intmath
rect
region rect
vec intmath
affine integer rational vec
path vec affine
pathtext numtext quoting path
flatten rational vec path
polygon vec
intersect integer rational vec polygon
scanline rational polygon intersect
area rational polygon intersect scanline
coverage rational rect polygon area
mask intmath rect
strokegeom intmath vec polygon
linejoin intmath vec polygon strokegeom
stroke vec polygon strokegeom linejoin
dash vec strokegeom stroke
outline affine path flatten polygon stroke dash
color numtext intmath
blend intmath color
composite intmath color blend
bitmap intmath rect mask color blend composite
gradient intmath color
gradientpos natural integer rational vec
image integer rational intmath color
paint rational affine color gradient gradientpos image
fill mask composite bitmap paint
node affine path strokegeom blend image paint
scene node
geometry affine path polygon outline scene
clip coverage mask scene geometry
shapemask coverage mask scene geometry clip
compositor mask color bitmap paint fill scene geometry clip shapemask
render rect color bitmap scene compositor
damage rect polygon node scene geometry render
hittest polygon scene geometry clip
scenetext numtext quoting pathtext color blend affine node scene
scenebin integer rational binenc checksum affine node scene
tile rect bitmap
workers rect bitmap scene render tile
retained region bitmap scene render damage tile
history binenc checksum scene scenebin
console numtext quoting checksum bitmap scene render hittest scenetext scenebin retained history
`

const library = " bytes cmp container/heap errors iter maps math math/bits slices sort strconv strings sync sync/atomic unicode unicode/utf8 "

// longest is the number of lines that a function may have.
const longest = 60

func layerFiles(t *testing.T, name string) []string {
	t.Helper()
	all, err := filepath.Glob(filepath.Join("..", name, "*.go"))
	if err != nil {
		t.Fatal(err)
	}
	return slices.DeleteFunc(all, func(f string) bool { return strings.HasSuffix(f, "_test.go") })
}

func parse(t *testing.T, fset *token.FileSet, file string) *ast.File {
	t.Helper()
	f, err := parser.ParseFile(fset, file, nil, parser.ParseComments)
	if err != nil {
		t.Fatal(err)
	}
	return f
}

func TestImportsFollowTheMap(t *testing.T) {
	for row := range strings.Lines(strings.TrimSpace(rows)) {
		words := strings.Fields(row)
		files := layerFiles(t, words[0])
		if len(files) == 0 {
			t.Errorf("no package %s", words[0])
		}
		for _, file := range files {
			for _, spec := range parse(t, token.NewFileSet(), file).Imports {
				path, _ := strconv.Unquote(spec.Path.Value)
				name, own := strings.CutPrefix(path, "grisaille/")
				if own && name != "api" && !slices.Contains(words[1:], name) {
					t.Errorf("%s imports %s, which its row does not name", file, path)
				}
				if !own && !strings.Contains(library, " "+path+" ") {
					t.Errorf("%s imports %s of the library", file, path)
				}
			}
		}
	}
}

func TestFunctionsAreShort(t *testing.T) {
	for row := range strings.Lines(strings.TrimSpace(rows)) {
		for _, file := range layerFiles(t, strings.Fields(row)[0]) {
			fset := token.NewFileSet()
			for _, d := range parse(t, fset, file).Decls {
				f, ok := d.(*ast.FuncDecl)
				if !ok {
					continue
				}
				if n := fset.Position(f.End()).Line - fset.Position(f.Pos()).Line + 1; n > longest {
					t.Errorf("%s: %s has %d lines", file, f.Name.Name, n)
				}
			}
		}
	}
}

func TestNoDirectivesAndNoForeignFiles(t *testing.T) {
	for row := range strings.Lines(strings.TrimSpace(rows)) {
		name := strings.Fields(row)[0]
		for _, file := range layerFiles(t, name) {
			for _, group := range parse(t, token.NewFileSet(), file).Comments {
				for _, c := range group.List {
					if strings.HasPrefix(c.Text, "//go:") || strings.HasPrefix(c.Text, "// +build") {
						t.Errorf("%s has the line %s", file, c.Text)
					}
				}
			}
		}
		entries, err := os.ReadDir(filepath.Join("..", name))
		if err != nil {
			t.Fatal(err)
		}
		for _, e := range entries {
			if !strings.HasSuffix(e.Name(), ".go") {
				t.Errorf("%s/%s is no Go file", name, e.Name())
			}
		}
	}
}

// TestPackageLevelVariables: at package level stand tables of literals only.
func TestPackageLevelVariables(t *testing.T) {
	for row := range strings.Lines(strings.TrimSpace(rows)) {
		for _, file := range layerFiles(t, strings.Fields(row)[0]) {
			for _, d := range parse(t, token.NewFileSet(), file).Decls {
				g, ok := d.(*ast.GenDecl)
				if !ok || g.Tok != token.VAR {
					continue
				}
				for _, s := range g.Specs {
					checkTable(t, file, s.(*ast.ValueSpec))
				}
			}
		}
	}
}

func checkTable(t *testing.T, file string, v *ast.ValueSpec) {
	t.Helper()
	if len(v.Values) != len(v.Names) {
		t.Errorf("%s: %s has no value of its own", file, v.Names[0].Name)
	}
	for _, value := range v.Values {
		ast.Inspect(value, func(n ast.Node) bool {
			switch x := n.(type) {
			case *ast.MapType, *ast.FuncLit, *ast.FuncType:
				t.Errorf("%s: %s holds a map or a function", file, v.Names[0].Name)
			case *ast.UnaryExpr:
				if x.Op == token.AND {
					t.Errorf("%s: %s holds a pointer", file, v.Names[0].Name)
				}
			case *ast.CallExpr:
				t.Errorf("%s: %s is made by a call", file, v.Names[0].Name)
			}
			return true
		})
	}
}
